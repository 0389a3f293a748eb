/-
  NARROWER THAN 'FOR EVERY INPUT', by the rows' own cells (each row's printed sentence says how): FnExactModel: laid · FnExactModelAt: laid · FnExactModelBy: laid · FnExactAnswers: laid · FnExactFreshFacts: laid · FnExactModelFresh: laid · FnExactStageOf: laid · FnExactProofOk: laid · FnExactProofOf: laid.
  DERIVED. THE GIVEN ROWS OF THIS SEAT. 9 by the template 'for every input the law returns true; each argument reads behind the call as it read before'; 0 by the template 'total and deterministic' (their statements: YtmnolnmpglanfaaGreatDoorTotals.lean).
  GIVEN WITH THE SEED: the statements are not yours to turn. If you find one false, say at which input.
  Laid BY PROGRAM, IN A SANDBOX (cutbox-rows.mjs): the forced cells as the released guide's own fill.sh prints them over the translation 9215c1994f2285a8… (all of the seat's roots in one cut). By AI agents, Wed Nov 11 2026. No macro, syntax, notation, axiom, sorry.
-/
import Derived.Test.YtmnolnmpglanfaaGreatDoorChecked
import GoSem.Claim
import GoSem.ClaimJoined
import GoSem.ClaimMapViews
import Derived.JoinedTies
import Derived.KernelRfl
namespace Go.Proofs.YtmnolnmpglanfaaGreatDoor
/- THE CELL 'sum', in the pinned program and in every row, IS THE sha256 OF THE DUMP (.gsa) THAT YtmnolnmpglanfaaGreatDoorProg.lean LOADS. Nothing in Lean hashes anything: it is a label: what it is worth is what the hold of that sum in a sandbox is worth. -/
noncomputable def Tryz.pinned : Pinned := { name := "ytmnolnmpglanfaagreatdoor", sum := "9215c1994f2285a8b39f1200bf46e2039dba66830a55e923d31046e960989e78", checked := Tryz.checked }
namespace Rows
def none {H : Type} : Left H := { results := [], args := [] }

/- WHAT THE LISTED PACKAGE-LEVEL VARIABLES READ AS WHEN THE CALL BEGINS. Each datum BY PROGRAM (the guide's laid-datum.mjs) off the statement by which the dump's own 'gosem.cut.vars' lays the variable. In a bare row this is a premise. The card (YtmnolnmpglanfaaGreatDoorCards.lean) ties it to the program's text. -/
def laid_math_bits_deBruijn32tab {H : Type} : DataW H := .agg [.lit (.int .u8 0), .lit (.int .u8 1), .lit (.int .u8 28), .lit (.int .u8 2), .lit (.int .u8 29), .lit (.int .u8 14), .lit (.int .u8 24), .lit (.int .u8 3), .lit (.int .u8 30), .lit (.int .u8 22), .lit (.int .u8 20), .lit (.int .u8 15), .lit (.int .u8 25), .lit (.int .u8 17), .lit (.int .u8 4), .lit (.int .u8 8), .lit (.int .u8 31), .lit (.int .u8 27), .lit (.int .u8 13), .lit (.int .u8 23), .lit (.int .u8 21), .lit (.int .u8 19), .lit (.int .u8 16), .lit (.int .u8 7), .lit (.int .u8 26), .lit (.int .u8 12), .lit (.int .u8 18), .lit (.int .u8 6), .lit (.int .u8 11), .lit (.int .u8 5), .lit (.int .u8 10), .lit (.int .u8 9)]
def laid_math_bits_deBruijn64tab {H : Type} : DataW H := .agg [.lit (.int .u8 0), .lit (.int .u8 1), .lit (.int .u8 56), .lit (.int .u8 2), .lit (.int .u8 57), .lit (.int .u8 49), .lit (.int .u8 28), .lit (.int .u8 3), .lit (.int .u8 61), .lit (.int .u8 58), .lit (.int .u8 42), .lit (.int .u8 50), .lit (.int .u8 38), .lit (.int .u8 29), .lit (.int .u8 17), .lit (.int .u8 4), .lit (.int .u8 62), .lit (.int .u8 47), .lit (.int .u8 59), .lit (.int .u8 36), .lit (.int .u8 45), .lit (.int .u8 43), .lit (.int .u8 51), .lit (.int .u8 22), .lit (.int .u8 53), .lit (.int .u8 39), .lit (.int .u8 33), .lit (.int .u8 30), .lit (.int .u8 24), .lit (.int .u8 18), .lit (.int .u8 12), .lit (.int .u8 5), .lit (.int .u8 63), .lit (.int .u8 55), .lit (.int .u8 48), .lit (.int .u8 27), .lit (.int .u8 60), .lit (.int .u8 41), .lit (.int .u8 37), .lit (.int .u8 16), .lit (.int .u8 46), .lit (.int .u8 35), .lit (.int .u8 44), .lit (.int .u8 21), .lit (.int .u8 52), .lit (.int .u8 32), .lit (.int .u8 23), .lit (.int .u8 11), .lit (.int .u8 54), .lit (.int .u8 26), .lit (.int .u8 40), .lit (.int .u8 15), .lit (.int .u8 34), .lit (.int .u8 20), .lit (.int .u8 31), .lit (.int .u8 10), .lit (.int .u8 25), .lit (.int .u8 14), .lit (.int .u8 19), .lit (.int .u8 9), .lit (.int .u8 13), .lit (.int .u8 8), .lit (.int .u8 7), .lit (.int .u8 6)]

/-- 'laws.FnExactModel': WHATEVER THE INPUT: true; the input reads as it did. -/
def fnExactModelSpec : ChangeSpec := { name := "fnExactModel", fn := fun _ => fun
  | [d1, d2] => { results := [.lit (.bool true)], args := [d1, d2] }
  | _ => none }
def fnExactModelRow : OpenClaim := { program := "ytmnolnmpglanfaagreatdoor", sum := "9215c1994f2285a8b39f1200bf46e2039dba66830a55e923d31046e960989e78", func := "loop.example/wholerules/laws.FnExactModel", spec := "fnExactModel", unfollowed := true, recurses := true, named := ["math/bits.deBruijn32tab", "math/bits.deBruijn64tab"], plainKeys := false, apart := false, laid := [("math/bits.deBruijn32tab", laid_math_bits_deBruijn32tab), ("math/bits.deBruijn64tab", laid_math_bits_deBruijn64tab)] }
def FnExactModelSaid : Prop := fnExactModelRow.holds Tryz.pinned (OpenSpec.ofChange fnExactModelSpec)

/-- ITS FALSE NEIGHBOUR: 'it returns false'. Refute it at one input. -/
def fnExactModelWrong : ChangeSpec := { name := "fnExactModel", fn := fun _ => fun
  | [d1, d2] => { results := [.lit (.bool false)], args := [d1, d2] }
  | _ => none }
def FnExactModelWrongFalsely : Prop := fnExactModelRow.holds Tryz.pinned (OpenSpec.ofChange fnExactModelWrong)

/-- 'laws.FnExactModelAt': WHATEVER THE INPUT: true; the input reads as it did. -/
def fnExactModelAtSpec : ChangeSpec := { name := "fnExactModelAt", fn := fun _ => fun
  | [d1, d2, d3] => { results := [.lit (.bool true)], args := [d1, d2, d3] }
  | _ => none }
def fnExactModelAtRow : OpenClaim := { program := "ytmnolnmpglanfaagreatdoor", sum := "9215c1994f2285a8b39f1200bf46e2039dba66830a55e923d31046e960989e78", func := "loop.example/wholerules/laws.FnExactModelAt", spec := "fnExactModelAt", unfollowed := true, recurses := true, named := ["math/bits.deBruijn32tab", "math/bits.deBruijn64tab"], plainKeys := false, apart := false, laid := [("math/bits.deBruijn32tab", laid_math_bits_deBruijn32tab), ("math/bits.deBruijn64tab", laid_math_bits_deBruijn64tab)] }
def FnExactModelAtSaid : Prop := fnExactModelAtRow.holds Tryz.pinned (OpenSpec.ofChange fnExactModelAtSpec)

/-- ITS FALSE NEIGHBOUR: 'it returns false'. Refute it at one input. -/
def fnExactModelAtWrong : ChangeSpec := { name := "fnExactModelAt", fn := fun _ => fun
  | [d1, d2, d3] => { results := [.lit (.bool false)], args := [d1, d2, d3] }
  | _ => none }
def FnExactModelAtWrongFalsely : Prop := fnExactModelAtRow.holds Tryz.pinned (OpenSpec.ofChange fnExactModelAtWrong)

/-- 'laws.FnExactModelBy': WHATEVER THE INPUT: true; the input reads as it did. -/
def fnExactModelBySpec : ChangeSpec := { name := "fnExactModelBy", fn := fun _ => fun
  | [d1, d2, d3] => { results := [.lit (.bool true)], args := [d1, d2, d3] }
  | _ => none }
def fnExactModelByRow : OpenClaim := { program := "ytmnolnmpglanfaagreatdoor", sum := "9215c1994f2285a8b39f1200bf46e2039dba66830a55e923d31046e960989e78", func := "loop.example/wholerules/laws.FnExactModelBy", spec := "fnExactModelBy", unfollowed := true, recurses := true, named := ["math/bits.deBruijn32tab", "math/bits.deBruijn64tab"], plainKeys := false, apart := false, laid := [("math/bits.deBruijn32tab", laid_math_bits_deBruijn32tab), ("math/bits.deBruijn64tab", laid_math_bits_deBruijn64tab)] }
def FnExactModelBySaid : Prop := fnExactModelByRow.holds Tryz.pinned (OpenSpec.ofChange fnExactModelBySpec)

/-- ITS FALSE NEIGHBOUR: 'it returns false'. Refute it at one input. -/
def fnExactModelByWrong : ChangeSpec := { name := "fnExactModelBy", fn := fun _ => fun
  | [d1, d2, d3] => { results := [.lit (.bool false)], args := [d1, d2, d3] }
  | _ => none }
def FnExactModelByWrongFalsely : Prop := fnExactModelByRow.holds Tryz.pinned (OpenSpec.ofChange fnExactModelByWrong)

/-- 'laws.FnExactAnswers': WHATEVER THE INPUT: true; the input reads as it did. -/
def fnExactAnswersSpec : ChangeSpec := { name := "fnExactAnswers", fn := fun _ => fun
  | [d1, d2, d3] => { results := [.lit (.bool true)], args := [d1, d2, d3] }
  | _ => none }
def fnExactAnswersRow : OpenClaim := { program := "ytmnolnmpglanfaagreatdoor", sum := "9215c1994f2285a8b39f1200bf46e2039dba66830a55e923d31046e960989e78", func := "loop.example/wholerules/laws.FnExactAnswers", spec := "fnExactAnswers", unfollowed := true, recurses := true, named := ["math/bits.deBruijn32tab", "math/bits.deBruijn64tab"], plainKeys := false, apart := false, laid := [("math/bits.deBruijn32tab", laid_math_bits_deBruijn32tab), ("math/bits.deBruijn64tab", laid_math_bits_deBruijn64tab)] }
def FnExactAnswersSaid : Prop := fnExactAnswersRow.holds Tryz.pinned (OpenSpec.ofChange fnExactAnswersSpec)

/-- ITS FALSE NEIGHBOUR: 'it returns false'. Refute it at one input. -/
def fnExactAnswersWrong : ChangeSpec := { name := "fnExactAnswers", fn := fun _ => fun
  | [d1, d2, d3] => { results := [.lit (.bool false)], args := [d1, d2, d3] }
  | _ => none }
def FnExactAnswersWrongFalsely : Prop := fnExactAnswersRow.holds Tryz.pinned (OpenSpec.ofChange fnExactAnswersWrong)

/-- 'laws.FnExactFreshFacts': WHATEVER THE INPUT: true; the input reads as it did. -/
def fnExactFreshFactsSpec : ChangeSpec := { name := "fnExactFreshFacts", fn := fun _ => fun
  | [d1, d2] => { results := [.lit (.bool true)], args := [d1, d2] }
  | _ => none }
def fnExactFreshFactsRow : OpenClaim := { program := "ytmnolnmpglanfaagreatdoor", sum := "9215c1994f2285a8b39f1200bf46e2039dba66830a55e923d31046e960989e78", func := "loop.example/wholerules/laws.FnExactFreshFacts", spec := "fnExactFreshFacts", unfollowed := true, recurses := true, named := ["math/bits.deBruijn32tab", "math/bits.deBruijn64tab"], plainKeys := false, apart := false, laid := [("math/bits.deBruijn32tab", laid_math_bits_deBruijn32tab), ("math/bits.deBruijn64tab", laid_math_bits_deBruijn64tab)] }
def FnExactFreshFactsSaid : Prop := fnExactFreshFactsRow.holds Tryz.pinned (OpenSpec.ofChange fnExactFreshFactsSpec)

/-- ITS FALSE NEIGHBOUR: 'it returns false'. Refute it at one input. -/
def fnExactFreshFactsWrong : ChangeSpec := { name := "fnExactFreshFacts", fn := fun _ => fun
  | [d1, d2] => { results := [.lit (.bool false)], args := [d1, d2] }
  | _ => none }
def FnExactFreshFactsWrongFalsely : Prop := fnExactFreshFactsRow.holds Tryz.pinned (OpenSpec.ofChange fnExactFreshFactsWrong)

/-- 'laws.FnExactModelFresh': WHATEVER THE INPUT: true; the input reads as it did. -/
def fnExactModelFreshSpec : ChangeSpec := { name := "fnExactModelFresh", fn := fun _ => fun
  | [d1, d2] => { results := [.lit (.bool true)], args := [d1, d2] }
  | _ => none }
def fnExactModelFreshRow : OpenClaim := { program := "ytmnolnmpglanfaagreatdoor", sum := "9215c1994f2285a8b39f1200bf46e2039dba66830a55e923d31046e960989e78", func := "loop.example/wholerules/laws.FnExactModelFresh", spec := "fnExactModelFresh", unfollowed := true, recurses := true, named := ["math/bits.deBruijn32tab", "math/bits.deBruijn64tab"], plainKeys := false, apart := false, laid := [("math/bits.deBruijn32tab", laid_math_bits_deBruijn32tab), ("math/bits.deBruijn64tab", laid_math_bits_deBruijn64tab)] }
def FnExactModelFreshSaid : Prop := fnExactModelFreshRow.holds Tryz.pinned (OpenSpec.ofChange fnExactModelFreshSpec)

/-- ITS FALSE NEIGHBOUR: 'it returns false'. Refute it at one input. -/
def fnExactModelFreshWrong : ChangeSpec := { name := "fnExactModelFresh", fn := fun _ => fun
  | [d1, d2] => { results := [.lit (.bool false)], args := [d1, d2] }
  | _ => none }
def FnExactModelFreshWrongFalsely : Prop := fnExactModelFreshRow.holds Tryz.pinned (OpenSpec.ofChange fnExactModelFreshWrong)

/-- 'laws.FnExactStageOf': WHATEVER THE INPUT: true; the input reads as it did. -/
def fnExactStageOfSpec : ChangeSpec := { name := "fnExactStageOf", fn := fun _ => fun
  | [d1, d2, d3] => { results := [.lit (.bool true)], args := [d1, d2, d3] }
  | _ => none }
def fnExactStageOfRow : OpenClaim := { program := "ytmnolnmpglanfaagreatdoor", sum := "9215c1994f2285a8b39f1200bf46e2039dba66830a55e923d31046e960989e78", func := "loop.example/wholerules/laws.FnExactStageOf", spec := "fnExactStageOf", unfollowed := true, recurses := true, named := ["math/bits.deBruijn32tab", "math/bits.deBruijn64tab"], plainKeys := false, apart := false, laid := [("math/bits.deBruijn32tab", laid_math_bits_deBruijn32tab), ("math/bits.deBruijn64tab", laid_math_bits_deBruijn64tab)] }
def FnExactStageOfSaid : Prop := fnExactStageOfRow.holds Tryz.pinned (OpenSpec.ofChange fnExactStageOfSpec)

/-- ITS FALSE NEIGHBOUR: 'it returns false'. Refute it at one input. -/
def fnExactStageOfWrong : ChangeSpec := { name := "fnExactStageOf", fn := fun _ => fun
  | [d1, d2, d3] => { results := [.lit (.bool false)], args := [d1, d2, d3] }
  | _ => none }
def FnExactStageOfWrongFalsely : Prop := fnExactStageOfRow.holds Tryz.pinned (OpenSpec.ofChange fnExactStageOfWrong)

/-- 'laws.FnExactProofOk': WHATEVER THE INPUT: true; the input reads as it did. -/
def fnExactProofOkSpec : ChangeSpec := { name := "fnExactProofOk", fn := fun _ => fun
  | [d1, d2, d3] => { results := [.lit (.bool true)], args := [d1, d2, d3] }
  | _ => none }
def fnExactProofOkRow : OpenClaim := { program := "ytmnolnmpglanfaagreatdoor", sum := "9215c1994f2285a8b39f1200bf46e2039dba66830a55e923d31046e960989e78", func := "loop.example/wholerules/laws.FnExactProofOk", spec := "fnExactProofOk", unfollowed := true, recurses := true, named := ["math/bits.deBruijn32tab", "math/bits.deBruijn64tab"], plainKeys := false, apart := false, laid := [("math/bits.deBruijn32tab", laid_math_bits_deBruijn32tab), ("math/bits.deBruijn64tab", laid_math_bits_deBruijn64tab)] }
def FnExactProofOkSaid : Prop := fnExactProofOkRow.holds Tryz.pinned (OpenSpec.ofChange fnExactProofOkSpec)

/-- ITS FALSE NEIGHBOUR: 'it returns false'. Refute it at one input. -/
def fnExactProofOkWrong : ChangeSpec := { name := "fnExactProofOk", fn := fun _ => fun
  | [d1, d2, d3] => { results := [.lit (.bool false)], args := [d1, d2, d3] }
  | _ => none }
def FnExactProofOkWrongFalsely : Prop := fnExactProofOkRow.holds Tryz.pinned (OpenSpec.ofChange fnExactProofOkWrong)

/-- 'laws.FnExactProofOf': WHATEVER THE INPUT: true; the input reads as it did. -/
def fnExactProofOfSpec : ChangeSpec := { name := "fnExactProofOf", fn := fun _ => fun
  | [d1, d2, d3] => { results := [.lit (.bool true)], args := [d1, d2, d3] }
  | _ => none }
def fnExactProofOfRow : OpenClaim := { program := "ytmnolnmpglanfaagreatdoor", sum := "9215c1994f2285a8b39f1200bf46e2039dba66830a55e923d31046e960989e78", func := "loop.example/wholerules/laws.FnExactProofOf", spec := "fnExactProofOf", unfollowed := true, recurses := true, named := ["math/bits.deBruijn32tab", "math/bits.deBruijn64tab"], plainKeys := false, apart := false, laid := [("math/bits.deBruijn32tab", laid_math_bits_deBruijn32tab), ("math/bits.deBruijn64tab", laid_math_bits_deBruijn64tab)] }
def FnExactProofOfSaid : Prop := fnExactProofOfRow.holds Tryz.pinned (OpenSpec.ofChange fnExactProofOfSpec)

/-- ITS FALSE NEIGHBOUR: 'it returns false'. Refute it at one input. -/
def fnExactProofOfWrong : ChangeSpec := { name := "fnExactProofOf", fn := fun _ => fun
  | [d1, d2, d3] => { results := [.lit (.bool false)], args := [d1, d2, d3] }
  | _ => none }
def FnExactProofOfWrongFalsely : Prop := fnExactProofOfRow.holds Tryz.pinned (OpenSpec.ofChange fnExactProofOfWrong)

/- THE SECOND FORM. 'bulk': how many values and letters a reading holds, each counted each time it is reached (what is shared counts as often as it is met; a slice's spare places count too). A statement '..UptoSaid' is the law's where the arguments, and the package variables that the reading takes, are together of bulk at most 1048576: NARROWER than '..Said'. Prove '..Said' where nothing that the law and all that it calls make is longer than what came in: it says more and counts as full. Else prove '..UptoSaid'. A law counts once. -/
mutual
def uptoBulk {H : Type} : DataW H → Nat
  | .lit (.string bytes) => bytes.length + 1
  | .lit _ => 1
  | .nil => 1
  | .ptr d => uptoBulk d + 1
  | .slice elems spare => uptoBulkAll elems + uptoBulkAll spare + 1
  | .agg parts => uptoBulkAll parts + 1
  | .iface _ d => uptoBulk d + 1
  | .map entries => uptoBulkEntries entries + 1
  | .held _ => 1
def uptoBulkAll {H : Type} : List (DataW H) → Nat
  | [] => 0
  | d :: r => uptoBulk d + uptoBulkAll r
def uptoBulkEntries {H : Type} : List (Lit × DataW H) → Nat
  | [] => 0
  | x :: r => uptoBulkEntry x + uptoBulkEntries r
def uptoBulkEntry {H : Type} : Lit × DataW H → Nat
  | (.string bytes, d) => bytes.length + uptoBulk d + 1
  | (_, d) => uptoBulk d + 1
 end
def uptoSmall : (H : Type) → List (DataW H) → Bool := fun _ ds => decide (uptoBulkAll ds ≤ 1048576)
def OpenSpec.upto (s : _root_.Go.ChangeSpec) : _root_.Go.OpenSpec := { _root_.Go.OpenSpec.ofChange s with cond := some uptoSmall }

/-- 'laws.FnExactModel', WHERE WHAT IT READS IS OF BULK AT MOST 1048576: true; the input reads as it did. -/
def fnExactModelUptoRow : OpenClaim := { program := "ytmnolnmpglanfaagreatdoor", sum := "9215c1994f2285a8b39f1200bf46e2039dba66830a55e923d31046e960989e78", func := "loop.example/wholerules/laws.FnExactModel", spec := "fnExactModel", unfollowed := true, recurses := true, named := ["math/bits.deBruijn32tab", "math/bits.deBruijn64tab"], plainKeys := false, apart := false, laid := [("math/bits.deBruijn32tab", laid_math_bits_deBruijn32tab), ("math/bits.deBruijn64tab", laid_math_bits_deBruijn64tab)], narrowed := true }
def FnExactModelUptoSaid : Prop := fnExactModelUptoRow.holds Tryz.pinned (OpenSpec.upto fnExactModelSpec)

/-- 'laws.FnExactModelAt', WHERE WHAT IT READS IS OF BULK AT MOST 1048576: true; the input reads as it did. -/
def fnExactModelAtUptoRow : OpenClaim := { program := "ytmnolnmpglanfaagreatdoor", sum := "9215c1994f2285a8b39f1200bf46e2039dba66830a55e923d31046e960989e78", func := "loop.example/wholerules/laws.FnExactModelAt", spec := "fnExactModelAt", unfollowed := true, recurses := true, named := ["math/bits.deBruijn32tab", "math/bits.deBruijn64tab"], plainKeys := false, apart := false, laid := [("math/bits.deBruijn32tab", laid_math_bits_deBruijn32tab), ("math/bits.deBruijn64tab", laid_math_bits_deBruijn64tab)], narrowed := true }
def FnExactModelAtUptoSaid : Prop := fnExactModelAtUptoRow.holds Tryz.pinned (OpenSpec.upto fnExactModelAtSpec)

/-- 'laws.FnExactModelBy', WHERE WHAT IT READS IS OF BULK AT MOST 1048576: true; the input reads as it did. -/
def fnExactModelByUptoRow : OpenClaim := { program := "ytmnolnmpglanfaagreatdoor", sum := "9215c1994f2285a8b39f1200bf46e2039dba66830a55e923d31046e960989e78", func := "loop.example/wholerules/laws.FnExactModelBy", spec := "fnExactModelBy", unfollowed := true, recurses := true, named := ["math/bits.deBruijn32tab", "math/bits.deBruijn64tab"], plainKeys := false, apart := false, laid := [("math/bits.deBruijn32tab", laid_math_bits_deBruijn32tab), ("math/bits.deBruijn64tab", laid_math_bits_deBruijn64tab)], narrowed := true }
def FnExactModelByUptoSaid : Prop := fnExactModelByUptoRow.holds Tryz.pinned (OpenSpec.upto fnExactModelBySpec)

/-- 'laws.FnExactAnswers', WHERE WHAT IT READS IS OF BULK AT MOST 1048576: true; the input reads as it did. -/
def fnExactAnswersUptoRow : OpenClaim := { program := "ytmnolnmpglanfaagreatdoor", sum := "9215c1994f2285a8b39f1200bf46e2039dba66830a55e923d31046e960989e78", func := "loop.example/wholerules/laws.FnExactAnswers", spec := "fnExactAnswers", unfollowed := true, recurses := true, named := ["math/bits.deBruijn32tab", "math/bits.deBruijn64tab"], plainKeys := false, apart := false, laid := [("math/bits.deBruijn32tab", laid_math_bits_deBruijn32tab), ("math/bits.deBruijn64tab", laid_math_bits_deBruijn64tab)], narrowed := true }
def FnExactAnswersUptoSaid : Prop := fnExactAnswersUptoRow.holds Tryz.pinned (OpenSpec.upto fnExactAnswersSpec)

/-- 'laws.FnExactFreshFacts', WHERE WHAT IT READS IS OF BULK AT MOST 1048576: true; the input reads as it did. -/
def fnExactFreshFactsUptoRow : OpenClaim := { program := "ytmnolnmpglanfaagreatdoor", sum := "9215c1994f2285a8b39f1200bf46e2039dba66830a55e923d31046e960989e78", func := "loop.example/wholerules/laws.FnExactFreshFacts", spec := "fnExactFreshFacts", unfollowed := true, recurses := true, named := ["math/bits.deBruijn32tab", "math/bits.deBruijn64tab"], plainKeys := false, apart := false, laid := [("math/bits.deBruijn32tab", laid_math_bits_deBruijn32tab), ("math/bits.deBruijn64tab", laid_math_bits_deBruijn64tab)], narrowed := true }
def FnExactFreshFactsUptoSaid : Prop := fnExactFreshFactsUptoRow.holds Tryz.pinned (OpenSpec.upto fnExactFreshFactsSpec)

/-- 'laws.FnExactModelFresh', WHERE WHAT IT READS IS OF BULK AT MOST 1048576: true; the input reads as it did. -/
def fnExactModelFreshUptoRow : OpenClaim := { program := "ytmnolnmpglanfaagreatdoor", sum := "9215c1994f2285a8b39f1200bf46e2039dba66830a55e923d31046e960989e78", func := "loop.example/wholerules/laws.FnExactModelFresh", spec := "fnExactModelFresh", unfollowed := true, recurses := true, named := ["math/bits.deBruijn32tab", "math/bits.deBruijn64tab"], plainKeys := false, apart := false, laid := [("math/bits.deBruijn32tab", laid_math_bits_deBruijn32tab), ("math/bits.deBruijn64tab", laid_math_bits_deBruijn64tab)], narrowed := true }
def FnExactModelFreshUptoSaid : Prop := fnExactModelFreshUptoRow.holds Tryz.pinned (OpenSpec.upto fnExactModelFreshSpec)

/-- 'laws.FnExactStageOf', WHERE WHAT IT READS IS OF BULK AT MOST 1048576: true; the input reads as it did. -/
def fnExactStageOfUptoRow : OpenClaim := { program := "ytmnolnmpglanfaagreatdoor", sum := "9215c1994f2285a8b39f1200bf46e2039dba66830a55e923d31046e960989e78", func := "loop.example/wholerules/laws.FnExactStageOf", spec := "fnExactStageOf", unfollowed := true, recurses := true, named := ["math/bits.deBruijn32tab", "math/bits.deBruijn64tab"], plainKeys := false, apart := false, laid := [("math/bits.deBruijn32tab", laid_math_bits_deBruijn32tab), ("math/bits.deBruijn64tab", laid_math_bits_deBruijn64tab)], narrowed := true }
def FnExactStageOfUptoSaid : Prop := fnExactStageOfUptoRow.holds Tryz.pinned (OpenSpec.upto fnExactStageOfSpec)

/-- 'laws.FnExactProofOk', WHERE WHAT IT READS IS OF BULK AT MOST 1048576: true; the input reads as it did. -/
def fnExactProofOkUptoRow : OpenClaim := { program := "ytmnolnmpglanfaagreatdoor", sum := "9215c1994f2285a8b39f1200bf46e2039dba66830a55e923d31046e960989e78", func := "loop.example/wholerules/laws.FnExactProofOk", spec := "fnExactProofOk", unfollowed := true, recurses := true, named := ["math/bits.deBruijn32tab", "math/bits.deBruijn64tab"], plainKeys := false, apart := false, laid := [("math/bits.deBruijn32tab", laid_math_bits_deBruijn32tab), ("math/bits.deBruijn64tab", laid_math_bits_deBruijn64tab)], narrowed := true }
def FnExactProofOkUptoSaid : Prop := fnExactProofOkUptoRow.holds Tryz.pinned (OpenSpec.upto fnExactProofOkSpec)

/-- 'laws.FnExactProofOf', WHERE WHAT IT READS IS OF BULK AT MOST 1048576: true; the input reads as it did. -/
def fnExactProofOfUptoRow : OpenClaim := { program := "ytmnolnmpglanfaagreatdoor", sum := "9215c1994f2285a8b39f1200bf46e2039dba66830a55e923d31046e960989e78", func := "loop.example/wholerules/laws.FnExactProofOf", spec := "fnExactProofOf", unfollowed := true, recurses := true, named := ["math/bits.deBruijn32tab", "math/bits.deBruijn64tab"], plainKeys := false, apart := false, laid := [("math/bits.deBruijn32tab", laid_math_bits_deBruijn32tab), ("math/bits.deBruijn64tab", laid_math_bits_deBruijn64tab)], narrowed := true }
def FnExactProofOfUptoSaid : Prop := fnExactProofOfUptoRow.holds Tryz.pinned (OpenSpec.upto fnExactProofOfSpec)

end Rows
end Go.Proofs.YtmnolnmpglanfaaGreatDoor
