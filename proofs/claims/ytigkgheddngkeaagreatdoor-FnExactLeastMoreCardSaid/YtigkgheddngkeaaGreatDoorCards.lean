/-
  DERIVED. GIVEN WITH THE SEED: THE CARDS: each row of YtigkgheddngkeaaGreatDoorRows.lean that lists a variable, with what it lists TIED to the program's text (the seventh form; the later family's looks); each row that meets fmt, with fmt's text TOLD by the authors' own Lean function (tested against real Go, not proved from fmt's source: count such statements apart). THE CARD IS WHAT COUNTS. Prove the row's statement (the work); the ties are given (YtigkgheddngkeaaGreatDoorTie.lean); close each card by the builder's one call (the guide's Derived/Test/ToyasCard.lean, 'card_holds'). Laid BY PROGRAM, IN A SANDBOX (cutbox-door.mjs). By AI agents, Wed Nov 11 2026. No macro, syntax, notation, axiom, sorry.
-/
import Derived.Test.YtigkgheddngkeaaGreatDoorRows
import GoSem.ClaimSeven
namespace Go.Proofs.YtigkgheddngkeaaGreatDoor
namespace Rows

/-- THE TIED CARD OF 'laws.FnExactRounds'. -/
def fnExactRoundsCard : Claim7 := { stood := { row := fnExactRoundsRow, standIns := [], harness := (true, "26d588f6e5e7a8d4dd45fe0a2b21d48168ac96876178b7f3b2e10b1419b1564b"), looks := false }, kinds := [], alts := [], laidByText := true, laidKinds := [.data], laidTests := true, laidLooks := .later }
def FnExactRoundsCardSaid : Prop := Claim7.holds Tryz.pinned (.plain (OpenSpec.ofChange fnExactRoundsSpec)) fnExactRoundsCard

/-- THE TIED CARD OF 'laws.FnExactLeast'. -/
def fnExactLeastCard : Claim7 := { stood := { row := fnExactLeastRow, standIns := [], harness := (true, "26d588f6e5e7a8d4dd45fe0a2b21d48168ac96876178b7f3b2e10b1419b1564b"), looks := false }, kinds := [], alts := [], laidByText := true, laidKinds := [.data], laidTests := true, laidLooks := .later }
def FnExactLeastCardSaid : Prop := Claim7.holds Tryz.pinned (.plain (OpenSpec.ofChange fnExactLeastSpec)) fnExactLeastCard

/-- THE TIED CARD OF 'laws.FnExactModel'. -/
def fnExactModelCard : Claim7 := { stood := { row := fnExactModelRow, standIns := [], harness := (true, "26d588f6e5e7a8d4dd45fe0a2b21d48168ac96876178b7f3b2e10b1419b1564b"), looks := false }, kinds := [], alts := [], laidByText := true, laidKinds := [.data, .data], laidTests := true, laidLooks := .later }
def FnExactModelCardSaid : Prop := Claim7.holds Tryz.pinned (.plain (OpenSpec.ofChange fnExactModelSpec)) fnExactModelCard

/-- THE TIED CARD OF 'laws.FnExactModelAt'. -/
def fnExactModelAtCard : Claim7 := { stood := { row := fnExactModelAtRow, standIns := [], harness := (true, "26d588f6e5e7a8d4dd45fe0a2b21d48168ac96876178b7f3b2e10b1419b1564b"), looks := false }, kinds := [], alts := [], laidByText := true, laidKinds := [.data, .data], laidTests := true, laidLooks := .later }
def FnExactModelAtCardSaid : Prop := Claim7.holds Tryz.pinned (.plain (OpenSpec.ofChange fnExactModelAtSpec)) fnExactModelAtCard

/-- THE TIED CARD OF 'laws.FnExactModelBy'. -/
def fnExactModelByCard : Claim7 := { stood := { row := fnExactModelByRow, standIns := [], harness := (true, "26d588f6e5e7a8d4dd45fe0a2b21d48168ac96876178b7f3b2e10b1419b1564b"), looks := false }, kinds := [], alts := [], laidByText := true, laidKinds := [.data, .data], laidTests := true, laidLooks := .later }
def FnExactModelByCardSaid : Prop := Claim7.holds Tryz.pinned (.plain (OpenSpec.ofChange fnExactModelBySpec)) fnExactModelByCard

/-- THE TIED CARD OF 'laws.FnExactAnswers'. -/
def fnExactAnswersCard : Claim7 := { stood := { row := fnExactAnswersRow, standIns := [], harness := (true, "26d588f6e5e7a8d4dd45fe0a2b21d48168ac96876178b7f3b2e10b1419b1564b"), looks := false }, kinds := [], alts := [], laidByText := true, laidKinds := [.data, .data], laidTests := true, laidLooks := .later }
def FnExactAnswersCardSaid : Prop := Claim7.holds Tryz.pinned (.plain (OpenSpec.ofChange fnExactAnswersSpec)) fnExactAnswersCard

/-- THE TIED CARD OF 'laws.FnExactFreshFacts'. -/
def fnExactFreshFactsCard : Claim7 := { stood := { row := fnExactFreshFactsRow, standIns := [], harness := (true, "26d588f6e5e7a8d4dd45fe0a2b21d48168ac96876178b7f3b2e10b1419b1564b"), looks := false }, kinds := [], alts := [], laidByText := true, laidKinds := [.data, .data], laidTests := true, laidLooks := .later }
def FnExactFreshFactsCardSaid : Prop := Claim7.holds Tryz.pinned (.plain (OpenSpec.ofChange fnExactFreshFactsSpec)) fnExactFreshFactsCard

/-- THE TIED CARD OF 'laws.FnExactModelFresh'. -/
def fnExactModelFreshCard : Claim7 := { stood := { row := fnExactModelFreshRow, standIns := [], harness := (true, "26d588f6e5e7a8d4dd45fe0a2b21d48168ac96876178b7f3b2e10b1419b1564b"), looks := false }, kinds := [], alts := [], laidByText := true, laidKinds := [.data, .data], laidTests := true, laidLooks := .later }
def FnExactModelFreshCardSaid : Prop := Claim7.holds Tryz.pinned (.plain (OpenSpec.ofChange fnExactModelFreshSpec)) fnExactModelFreshCard

/-- THE TIED CARD OF 'laws.FnExactStageOf'. -/
def fnExactStageOfCard : Claim7 := { stood := { row := fnExactStageOfRow, standIns := [], harness := (true, "26d588f6e5e7a8d4dd45fe0a2b21d48168ac96876178b7f3b2e10b1419b1564b"), looks := false }, kinds := [], alts := [], laidByText := true, laidKinds := [.data, .data], laidTests := true, laidLooks := .later }
def FnExactStageOfCardSaid : Prop := Claim7.holds Tryz.pinned (.plain (OpenSpec.ofChange fnExactStageOfSpec)) fnExactStageOfCard

/-- THE TIED CARD OF 'laws.FnExactLeastMore'. -/
def fnExactLeastMoreCard : Claim7 := { stood := { row := fnExactLeastMoreRow, standIns := [], harness := (true, "26d588f6e5e7a8d4dd45fe0a2b21d48168ac96876178b7f3b2e10b1419b1564b"), looks := false }, kinds := [], alts := [], laidByText := true, laidKinds := [.data], laidTests := true, laidLooks := .later }
def FnExactLeastMoreCardSaid : Prop := Claim7.holds Tryz.pinned (.plain (OpenSpec.ofChange fnExactLeastMoreSpec)) fnExactLeastMoreCard

/-- THE SECOND FORM's CARD OF 'laws.FnExactRounds'. -/
def fnExactRoundsUptoCard : Claim7 := { stood := { row := fnExactRoundsUptoRow, standIns := [], harness := (true, "26d588f6e5e7a8d4dd45fe0a2b21d48168ac96876178b7f3b2e10b1419b1564b"), looks := false }, kinds := [], alts := [], laidByText := true, laidKinds := [.data], laidTests := true, laidLooks := .later }
def FnExactRoundsUptoCardSaid : Prop := Claim7.holds Tryz.pinned (.plain (OpenSpec.upto fnExactRoundsSpec)) fnExactRoundsUptoCard

/-- THE SECOND FORM's CARD OF 'laws.FnExactLeast'. -/
def fnExactLeastUptoCard : Claim7 := { stood := { row := fnExactLeastUptoRow, standIns := [], harness := (true, "26d588f6e5e7a8d4dd45fe0a2b21d48168ac96876178b7f3b2e10b1419b1564b"), looks := false }, kinds := [], alts := [], laidByText := true, laidKinds := [.data], laidTests := true, laidLooks := .later }
def FnExactLeastUptoCardSaid : Prop := Claim7.holds Tryz.pinned (.plain (OpenSpec.upto fnExactLeastSpec)) fnExactLeastUptoCard

/-- THE SECOND FORM's CARD OF 'laws.FnExactModel'. -/
def fnExactModelUptoCard : Claim7 := { stood := { row := fnExactModelUptoRow, standIns := [], harness := (true, "26d588f6e5e7a8d4dd45fe0a2b21d48168ac96876178b7f3b2e10b1419b1564b"), looks := false }, kinds := [], alts := [], laidByText := true, laidKinds := [.data, .data], laidTests := true, laidLooks := .later }
def FnExactModelUptoCardSaid : Prop := Claim7.holds Tryz.pinned (.plain (OpenSpec.upto fnExactModelSpec)) fnExactModelUptoCard

/-- THE SECOND FORM's CARD OF 'laws.FnExactModelAt'. -/
def fnExactModelAtUptoCard : Claim7 := { stood := { row := fnExactModelAtUptoRow, standIns := [], harness := (true, "26d588f6e5e7a8d4dd45fe0a2b21d48168ac96876178b7f3b2e10b1419b1564b"), looks := false }, kinds := [], alts := [], laidByText := true, laidKinds := [.data, .data], laidTests := true, laidLooks := .later }
def FnExactModelAtUptoCardSaid : Prop := Claim7.holds Tryz.pinned (.plain (OpenSpec.upto fnExactModelAtSpec)) fnExactModelAtUptoCard

/-- THE SECOND FORM's CARD OF 'laws.FnExactModelBy'. -/
def fnExactModelByUptoCard : Claim7 := { stood := { row := fnExactModelByUptoRow, standIns := [], harness := (true, "26d588f6e5e7a8d4dd45fe0a2b21d48168ac96876178b7f3b2e10b1419b1564b"), looks := false }, kinds := [], alts := [], laidByText := true, laidKinds := [.data, .data], laidTests := true, laidLooks := .later }
def FnExactModelByUptoCardSaid : Prop := Claim7.holds Tryz.pinned (.plain (OpenSpec.upto fnExactModelBySpec)) fnExactModelByUptoCard

/-- THE SECOND FORM's CARD OF 'laws.FnExactAnswers'. -/
def fnExactAnswersUptoCard : Claim7 := { stood := { row := fnExactAnswersUptoRow, standIns := [], harness := (true, "26d588f6e5e7a8d4dd45fe0a2b21d48168ac96876178b7f3b2e10b1419b1564b"), looks := false }, kinds := [], alts := [], laidByText := true, laidKinds := [.data, .data], laidTests := true, laidLooks := .later }
def FnExactAnswersUptoCardSaid : Prop := Claim7.holds Tryz.pinned (.plain (OpenSpec.upto fnExactAnswersSpec)) fnExactAnswersUptoCard

/-- THE SECOND FORM's CARD OF 'laws.FnExactFreshFacts'. -/
def fnExactFreshFactsUptoCard : Claim7 := { stood := { row := fnExactFreshFactsUptoRow, standIns := [], harness := (true, "26d588f6e5e7a8d4dd45fe0a2b21d48168ac96876178b7f3b2e10b1419b1564b"), looks := false }, kinds := [], alts := [], laidByText := true, laidKinds := [.data, .data], laidTests := true, laidLooks := .later }
def FnExactFreshFactsUptoCardSaid : Prop := Claim7.holds Tryz.pinned (.plain (OpenSpec.upto fnExactFreshFactsSpec)) fnExactFreshFactsUptoCard

/-- THE SECOND FORM's CARD OF 'laws.FnExactModelFresh'. -/
def fnExactModelFreshUptoCard : Claim7 := { stood := { row := fnExactModelFreshUptoRow, standIns := [], harness := (true, "26d588f6e5e7a8d4dd45fe0a2b21d48168ac96876178b7f3b2e10b1419b1564b"), looks := false }, kinds := [], alts := [], laidByText := true, laidKinds := [.data, .data], laidTests := true, laidLooks := .later }
def FnExactModelFreshUptoCardSaid : Prop := Claim7.holds Tryz.pinned (.plain (OpenSpec.upto fnExactModelFreshSpec)) fnExactModelFreshUptoCard

/-- THE SECOND FORM's CARD OF 'laws.FnExactStageOf'. -/
def fnExactStageOfUptoCard : Claim7 := { stood := { row := fnExactStageOfUptoRow, standIns := [], harness := (true, "26d588f6e5e7a8d4dd45fe0a2b21d48168ac96876178b7f3b2e10b1419b1564b"), looks := false }, kinds := [], alts := [], laidByText := true, laidKinds := [.data, .data], laidTests := true, laidLooks := .later }
def FnExactStageOfUptoCardSaid : Prop := Claim7.holds Tryz.pinned (.plain (OpenSpec.upto fnExactStageOfSpec)) fnExactStageOfUptoCard

/-- THE SECOND FORM's CARD OF 'laws.FnExactLeastMore'. -/
def fnExactLeastMoreUptoCard : Claim7 := { stood := { row := fnExactLeastMoreUptoRow, standIns := [], harness := (true, "26d588f6e5e7a8d4dd45fe0a2b21d48168ac96876178b7f3b2e10b1419b1564b"), looks := false }, kinds := [], alts := [], laidByText := true, laidKinds := [.data], laidTests := true, laidLooks := .later }
def FnExactLeastMoreUptoCardSaid : Prop := Claim7.holds Tryz.pinned (.plain (OpenSpec.upto fnExactLeastMoreSpec)) fnExactLeastMoreUptoCard
end Rows
end Go.Proofs.YtigkgheddngkeaaGreatDoor
