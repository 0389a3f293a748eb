/-
  DERIVED. GIVEN WITH THE SEED: THE CARDS: each row of YtlehcghdhfeahaaDoorRows.lean that lists a variable, with what it lists TIED to the program's text (the seventh form; the later family's looks); each row that meets fmt, with fmt's text TOLD by the authors' own Lean function (tested against real Go, not proved from fmt's source: count such statements apart). THE CARD IS WHAT COUNTS. Prove the row's statement (the work); the ties are given (YtlehcghdhfeahaaDoorTie.lean); close each card by the builder's one call (the guide's Derived/Test/ToyasCard.lean, 'card_holds'). Laid BY PROGRAM, IN A SANDBOX (cutbox-door.mjs). By AI agents, Wed Nov 11 2026. No macro, syntax, notation, axiom, sorry.
-/
import Derived.Test.YtlehcghdhfeahaaDoorRows
import GoSem.ClaimSeven
namespace Go.Proofs.YtlehcghdhfeahaaDoor
namespace Rows

/-- THE TIED CARD OF 'laws.FnRules'. -/
def fnRulesCard : Claim7 := { stood := { row := fnRulesRow, standIns := [], harness := (true, "109c117c52ea79f35ecd8c70d7637fa55fc755f17d1c21179963ded452e57f3d"), looks := false }, kinds := [], alts := [], laidByText := true, laidKinds := [.data, .data], laidTests := true, laidLooks := .later }
def FnRulesCardSaid : Prop := Claim7.holds Tryd.pinned (.plain (OpenSpec.ofChange fnRulesSpec)) fnRulesCard

/-- THE TIED CARD OF 'laws.FnPrograms'. -/
def fnProgramsCard : Claim7 := { stood := { row := fnProgramsRow, standIns := [], harness := (true, "109c117c52ea79f35ecd8c70d7637fa55fc755f17d1c21179963ded452e57f3d"), looks := false }, kinds := [], alts := [], laidByText := true, laidKinds := [.data, .data], laidTests := true, laidLooks := .later }
def FnProgramsCardSaid : Prop := Claim7.holds Tryd.pinned (.plain (OpenSpec.ofChange fnProgramsSpec)) fnProgramsCard

/-- THE TIED CARD OF 'laws.FnExactLinksOf'. -/
def fnExactLinksOfCard : Claim7 := { stood := { row := fnExactLinksOfRow, standIns := [], harness := (true, "109c117c52ea79f35ecd8c70d7637fa55fc755f17d1c21179963ded452e57f3d"), looks := false }, kinds := [], alts := [], laidByText := true, laidKinds := [.data, .data], laidTests := true, laidLooks := .later }
def FnExactLinksOfCardSaid : Prop := Claim7.holds Tryd.pinned (.plain (OpenSpec.ofChange fnExactLinksOfSpec)) fnExactLinksOfCard

/-- THE TIED CARD OF 'laws.FnExactLayersFit'. -/
def fnExactLayersFitCard : Claim7 := { stood := { row := fnExactLayersFitRow, standIns := [], harness := (true, "109c117c52ea79f35ecd8c70d7637fa55fc755f17d1c21179963ded452e57f3d"), looks := false }, kinds := [], alts := [], laidByText := true, laidKinds := [.data, .data], laidTests := true, laidLooks := .later }
def FnExactLayersFitCardSaid : Prop := Claim7.holds Tryd.pinned (.plain (OpenSpec.ofChange fnExactLayersFitSpec)) fnExactLayersFitCard

/-- THE TIED CARD OF 'laws.FnExactRecursive'. -/
def fnExactRecursiveCard : Claim7 := { stood := { row := fnExactRecursiveRow, standIns := [], harness := (true, "109c117c52ea79f35ecd8c70d7637fa55fc755f17d1c21179963ded452e57f3d"), looks := false }, kinds := [], alts := [], laidByText := true, laidKinds := [.data, .data], laidTests := true, laidLooks := .later }
def FnExactRecursiveCardSaid : Prop := Claim7.holds Tryd.pinned (.plain (OpenSpec.ofChange fnExactRecursiveSpec)) fnExactRecursiveCard

/-- THE SECOND FORM's CARD OF 'laws.FnRules'. -/
def fnRulesUptoCard : Claim7 := { stood := { row := fnRulesUptoRow, standIns := [], harness := (true, "109c117c52ea79f35ecd8c70d7637fa55fc755f17d1c21179963ded452e57f3d"), looks := false }, kinds := [], alts := [], laidByText := true, laidKinds := [.data, .data], laidTests := true, laidLooks := .later }
def FnRulesUptoCardSaid : Prop := Claim7.holds Tryd.pinned (.plain (OpenSpec.upto fnRulesSpec)) fnRulesUptoCard

/-- THE SECOND FORM's CARD OF 'laws.FnPrograms'. -/
def fnProgramsUptoCard : Claim7 := { stood := { row := fnProgramsUptoRow, standIns := [], harness := (true, "109c117c52ea79f35ecd8c70d7637fa55fc755f17d1c21179963ded452e57f3d"), looks := false }, kinds := [], alts := [], laidByText := true, laidKinds := [.data, .data], laidTests := true, laidLooks := .later }
def FnProgramsUptoCardSaid : Prop := Claim7.holds Tryd.pinned (.plain (OpenSpec.upto fnProgramsSpec)) fnProgramsUptoCard

/-- THE SECOND FORM's CARD OF 'laws.FnExactLinksOf'. -/
def fnExactLinksOfUptoCard : Claim7 := { stood := { row := fnExactLinksOfUptoRow, standIns := [], harness := (true, "109c117c52ea79f35ecd8c70d7637fa55fc755f17d1c21179963ded452e57f3d"), looks := false }, kinds := [], alts := [], laidByText := true, laidKinds := [.data, .data], laidTests := true, laidLooks := .later }
def FnExactLinksOfUptoCardSaid : Prop := Claim7.holds Tryd.pinned (.plain (OpenSpec.upto fnExactLinksOfSpec)) fnExactLinksOfUptoCard

/-- THE SECOND FORM's CARD OF 'laws.FnExactLayersFit'. -/
def fnExactLayersFitUptoCard : Claim7 := { stood := { row := fnExactLayersFitUptoRow, standIns := [], harness := (true, "109c117c52ea79f35ecd8c70d7637fa55fc755f17d1c21179963ded452e57f3d"), looks := false }, kinds := [], alts := [], laidByText := true, laidKinds := [.data, .data], laidTests := true, laidLooks := .later }
def FnExactLayersFitUptoCardSaid : Prop := Claim7.holds Tryd.pinned (.plain (OpenSpec.upto fnExactLayersFitSpec)) fnExactLayersFitUptoCard

/-- THE SECOND FORM's CARD OF 'laws.FnExactRecursive'. -/
def fnExactRecursiveUptoCard : Claim7 := { stood := { row := fnExactRecursiveUptoRow, standIns := [], harness := (true, "109c117c52ea79f35ecd8c70d7637fa55fc755f17d1c21179963ded452e57f3d"), looks := false }, kinds := [], alts := [], laidByText := true, laidKinds := [.data, .data], laidTests := true, laidLooks := .later }
def FnExactRecursiveUptoCardSaid : Prop := Claim7.holds Tryd.pinned (.plain (OpenSpec.upto fnExactRecursiveSpec)) fnExactRecursiveUptoCard
end Rows
end Go.Proofs.YtlehcghdhfeahaaDoor
