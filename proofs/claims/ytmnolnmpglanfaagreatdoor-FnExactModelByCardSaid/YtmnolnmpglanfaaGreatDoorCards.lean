/-
  DERIVED. GIVEN WITH THE SEED: THE CARDS: each row of YtmnolnmpglanfaaGreatDoorRows.lean that lists a variable, with what it lists TIED to the program's text (the seventh form; the later family's looks); each row that meets fmt, with fmt's text TOLD by the authors' own Lean function (tested against real Go, not proved from fmt's source: count such statements apart). THE CARD IS WHAT COUNTS. Prove the row's statement (the work); the ties are given (YtmnolnmpglanfaaGreatDoorTie.lean); close each card by the builder's one call (the guide's Derived/Test/ToyasCard.lean, 'card_holds'). Laid BY PROGRAM, IN A SANDBOX (cutbox-door.mjs). By AI agents, Wed Nov 11 2026. No macro, syntax, notation, axiom, sorry.
-/
import Derived.Test.YtmnolnmpglanfaaGreatDoorRows
import GoSem.ClaimSeven
namespace Go.Proofs.YtmnolnmpglanfaaGreatDoor
namespace Rows

/-- THE TIED CARD OF 'laws.FnExactModel'. -/
def fnExactModelCard : Claim7 := { stood := { row := fnExactModelRow, standIns := [], harness := (true, "606ee496eb09e4ae50895afea34e83d844a48e9d13f6b1062c01565ce91676c1"), looks := false }, kinds := [], alts := [], laidByText := true, laidKinds := [.data, .data], laidTests := true, laidLooks := .later }
def FnExactModelCardSaid : Prop := Claim7.holds Tryz.pinned (.plain (OpenSpec.ofChange fnExactModelSpec)) fnExactModelCard

/-- THE TIED CARD OF 'laws.FnExactModelAt'. -/
def fnExactModelAtCard : Claim7 := { stood := { row := fnExactModelAtRow, standIns := [], harness := (true, "606ee496eb09e4ae50895afea34e83d844a48e9d13f6b1062c01565ce91676c1"), looks := false }, kinds := [], alts := [], laidByText := true, laidKinds := [.data, .data], laidTests := true, laidLooks := .later }
def FnExactModelAtCardSaid : Prop := Claim7.holds Tryz.pinned (.plain (OpenSpec.ofChange fnExactModelAtSpec)) fnExactModelAtCard

/-- THE TIED CARD OF 'laws.FnExactModelBy'. -/
def fnExactModelByCard : Claim7 := { stood := { row := fnExactModelByRow, standIns := [], harness := (true, "606ee496eb09e4ae50895afea34e83d844a48e9d13f6b1062c01565ce91676c1"), looks := false }, kinds := [], alts := [], laidByText := true, laidKinds := [.data, .data], laidTests := true, laidLooks := .later }
def FnExactModelByCardSaid : Prop := Claim7.holds Tryz.pinned (.plain (OpenSpec.ofChange fnExactModelBySpec)) fnExactModelByCard

/-- THE TIED CARD OF 'laws.FnExactAnswers'. -/
def fnExactAnswersCard : Claim7 := { stood := { row := fnExactAnswersRow, standIns := [], harness := (true, "606ee496eb09e4ae50895afea34e83d844a48e9d13f6b1062c01565ce91676c1"), looks := false }, kinds := [], alts := [], laidByText := true, laidKinds := [.data, .data], laidTests := true, laidLooks := .later }
def FnExactAnswersCardSaid : Prop := Claim7.holds Tryz.pinned (.plain (OpenSpec.ofChange fnExactAnswersSpec)) fnExactAnswersCard

/-- THE TIED CARD OF 'laws.FnExactFreshFacts'. -/
def fnExactFreshFactsCard : Claim7 := { stood := { row := fnExactFreshFactsRow, standIns := [], harness := (true, "606ee496eb09e4ae50895afea34e83d844a48e9d13f6b1062c01565ce91676c1"), looks := false }, kinds := [], alts := [], laidByText := true, laidKinds := [.data, .data], laidTests := true, laidLooks := .later }
def FnExactFreshFactsCardSaid : Prop := Claim7.holds Tryz.pinned (.plain (OpenSpec.ofChange fnExactFreshFactsSpec)) fnExactFreshFactsCard

/-- THE TIED CARD OF 'laws.FnExactModelFresh'. -/
def fnExactModelFreshCard : Claim7 := { stood := { row := fnExactModelFreshRow, standIns := [], harness := (true, "606ee496eb09e4ae50895afea34e83d844a48e9d13f6b1062c01565ce91676c1"), looks := false }, kinds := [], alts := [], laidByText := true, laidKinds := [.data, .data], laidTests := true, laidLooks := .later }
def FnExactModelFreshCardSaid : Prop := Claim7.holds Tryz.pinned (.plain (OpenSpec.ofChange fnExactModelFreshSpec)) fnExactModelFreshCard

/-- THE TIED CARD OF 'laws.FnExactStageOf'. -/
def fnExactStageOfCard : Claim7 := { stood := { row := fnExactStageOfRow, standIns := [], harness := (true, "606ee496eb09e4ae50895afea34e83d844a48e9d13f6b1062c01565ce91676c1"), looks := false }, kinds := [], alts := [], laidByText := true, laidKinds := [.data, .data], laidTests := true, laidLooks := .later }
def FnExactStageOfCardSaid : Prop := Claim7.holds Tryz.pinned (.plain (OpenSpec.ofChange fnExactStageOfSpec)) fnExactStageOfCard

/-- THE TIED CARD OF 'laws.FnExactProofOk'. -/
def fnExactProofOkCard : Claim7 := { stood := { row := fnExactProofOkRow, standIns := [], harness := (true, "606ee496eb09e4ae50895afea34e83d844a48e9d13f6b1062c01565ce91676c1"), looks := false }, kinds := [], alts := [], laidByText := true, laidKinds := [.data, .data], laidTests := true, laidLooks := .later }
def FnExactProofOkCardSaid : Prop := Claim7.holds Tryz.pinned (.plain (OpenSpec.ofChange fnExactProofOkSpec)) fnExactProofOkCard

/-- THE TIED CARD OF 'laws.FnExactProofOf'. -/
def fnExactProofOfCard : Claim7 := { stood := { row := fnExactProofOfRow, standIns := [], harness := (true, "606ee496eb09e4ae50895afea34e83d844a48e9d13f6b1062c01565ce91676c1"), looks := false }, kinds := [], alts := [], laidByText := true, laidKinds := [.data, .data], laidTests := true, laidLooks := .later }
def FnExactProofOfCardSaid : Prop := Claim7.holds Tryz.pinned (.plain (OpenSpec.ofChange fnExactProofOfSpec)) fnExactProofOfCard

/-- THE SECOND FORM's CARD OF 'laws.FnExactModel'. -/
def fnExactModelUptoCard : Claim7 := { stood := { row := fnExactModelUptoRow, standIns := [], harness := (true, "606ee496eb09e4ae50895afea34e83d844a48e9d13f6b1062c01565ce91676c1"), looks := false }, kinds := [], alts := [], laidByText := true, laidKinds := [.data, .data], laidTests := true, laidLooks := .later }
def FnExactModelUptoCardSaid : Prop := Claim7.holds Tryz.pinned (.plain (OpenSpec.upto fnExactModelSpec)) fnExactModelUptoCard

/-- THE SECOND FORM's CARD OF 'laws.FnExactModelAt'. -/
def fnExactModelAtUptoCard : Claim7 := { stood := { row := fnExactModelAtUptoRow, standIns := [], harness := (true, "606ee496eb09e4ae50895afea34e83d844a48e9d13f6b1062c01565ce91676c1"), looks := false }, kinds := [], alts := [], laidByText := true, laidKinds := [.data, .data], laidTests := true, laidLooks := .later }
def FnExactModelAtUptoCardSaid : Prop := Claim7.holds Tryz.pinned (.plain (OpenSpec.upto fnExactModelAtSpec)) fnExactModelAtUptoCard

/-- THE SECOND FORM's CARD OF 'laws.FnExactModelBy'. -/
def fnExactModelByUptoCard : Claim7 := { stood := { row := fnExactModelByUptoRow, standIns := [], harness := (true, "606ee496eb09e4ae50895afea34e83d844a48e9d13f6b1062c01565ce91676c1"), looks := false }, kinds := [], alts := [], laidByText := true, laidKinds := [.data, .data], laidTests := true, laidLooks := .later }
def FnExactModelByUptoCardSaid : Prop := Claim7.holds Tryz.pinned (.plain (OpenSpec.upto fnExactModelBySpec)) fnExactModelByUptoCard

/-- THE SECOND FORM's CARD OF 'laws.FnExactAnswers'. -/
def fnExactAnswersUptoCard : Claim7 := { stood := { row := fnExactAnswersUptoRow, standIns := [], harness := (true, "606ee496eb09e4ae50895afea34e83d844a48e9d13f6b1062c01565ce91676c1"), looks := false }, kinds := [], alts := [], laidByText := true, laidKinds := [.data, .data], laidTests := true, laidLooks := .later }
def FnExactAnswersUptoCardSaid : Prop := Claim7.holds Tryz.pinned (.plain (OpenSpec.upto fnExactAnswersSpec)) fnExactAnswersUptoCard

/-- THE SECOND FORM's CARD OF 'laws.FnExactFreshFacts'. -/
def fnExactFreshFactsUptoCard : Claim7 := { stood := { row := fnExactFreshFactsUptoRow, standIns := [], harness := (true, "606ee496eb09e4ae50895afea34e83d844a48e9d13f6b1062c01565ce91676c1"), looks := false }, kinds := [], alts := [], laidByText := true, laidKinds := [.data, .data], laidTests := true, laidLooks := .later }
def FnExactFreshFactsUptoCardSaid : Prop := Claim7.holds Tryz.pinned (.plain (OpenSpec.upto fnExactFreshFactsSpec)) fnExactFreshFactsUptoCard

/-- THE SECOND FORM's CARD OF 'laws.FnExactModelFresh'. -/
def fnExactModelFreshUptoCard : Claim7 := { stood := { row := fnExactModelFreshUptoRow, standIns := [], harness := (true, "606ee496eb09e4ae50895afea34e83d844a48e9d13f6b1062c01565ce91676c1"), looks := false }, kinds := [], alts := [], laidByText := true, laidKinds := [.data, .data], laidTests := true, laidLooks := .later }
def FnExactModelFreshUptoCardSaid : Prop := Claim7.holds Tryz.pinned (.plain (OpenSpec.upto fnExactModelFreshSpec)) fnExactModelFreshUptoCard

/-- THE SECOND FORM's CARD OF 'laws.FnExactStageOf'. -/
def fnExactStageOfUptoCard : Claim7 := { stood := { row := fnExactStageOfUptoRow, standIns := [], harness := (true, "606ee496eb09e4ae50895afea34e83d844a48e9d13f6b1062c01565ce91676c1"), looks := false }, kinds := [], alts := [], laidByText := true, laidKinds := [.data, .data], laidTests := true, laidLooks := .later }
def FnExactStageOfUptoCardSaid : Prop := Claim7.holds Tryz.pinned (.plain (OpenSpec.upto fnExactStageOfSpec)) fnExactStageOfUptoCard

/-- THE SECOND FORM's CARD OF 'laws.FnExactProofOk'. -/
def fnExactProofOkUptoCard : Claim7 := { stood := { row := fnExactProofOkUptoRow, standIns := [], harness := (true, "606ee496eb09e4ae50895afea34e83d844a48e9d13f6b1062c01565ce91676c1"), looks := false }, kinds := [], alts := [], laidByText := true, laidKinds := [.data, .data], laidTests := true, laidLooks := .later }
def FnExactProofOkUptoCardSaid : Prop := Claim7.holds Tryz.pinned (.plain (OpenSpec.upto fnExactProofOkSpec)) fnExactProofOkUptoCard

/-- THE SECOND FORM's CARD OF 'laws.FnExactProofOf'. -/
def fnExactProofOfUptoCard : Claim7 := { stood := { row := fnExactProofOfUptoRow, standIns := [], harness := (true, "606ee496eb09e4ae50895afea34e83d844a48e9d13f6b1062c01565ce91676c1"), looks := false }, kinds := [], alts := [], laidByText := true, laidKinds := [.data, .data], laidTests := true, laidLooks := .later }
def FnExactProofOfUptoCardSaid : Prop := Claim7.holds Tryz.pinned (.plain (OpenSpec.upto fnExactProofOfSpec)) fnExactProofOfUptoCard
end Rows
end Go.Proofs.YtmnolnmpglanfaaGreatDoor
