/-
  DERIVED. GIVEN WITH THE SEED: THE CARDS: each row of YtokmmloakahkhaaDoorRows.lean that lists a variable, with what it lists TIED to the program's text (the seventh form; the later family's looks); each row that meets fmt, with fmt's text TOLD by the authors' own Lean function (tested against real Go, not proved from fmt's source: count such statements apart). THE CARD IS WHAT COUNTS. Prove the row's statement (the work); the ties are given (YtokmmloakahkhaaDoorTie.lean); close each card by the builder's one call (the guide's Derived/Test/ToyasCard.lean, 'card_holds'). Laid BY PROGRAM, IN A SANDBOX (cutbox-door.mjs). By AI agents, Wed Nov 11 2026. No macro, syntax, notation, axiom, sorry.
-/
import Derived.Test.YtokmmloakahkhaaDoorRows
import GoSem.ClaimSeven
namespace Go.Proofs.YtokmmloakahkhaaDoor
namespace Rows

/-- THE TIED CARD OF 'laws.FnLayers'. -/
def fnLayersCard : Claim7 := { stood := { row := fnLayersRow, standIns := [], harness := (true, "6f994bc4384506fd34f3e771ee476e4cc97137f52f82e071fdf92e8a01e60b8a"), looks := false }, kinds := [], alts := [], laidByText := true, laidKinds := [.data, .data], laidTests := true, laidLooks := .later }
def FnLayersCardSaid : Prop := Claim7.holds Tryd.pinned (.plain (OpenSpec.ofChange fnLayersSpec)) fnLayersCard

/-- THE TIED CARD OF 'laws.FnLayersFit'. -/
def fnLayersFitCard : Claim7 := { stood := { row := fnLayersFitRow, standIns := [], harness := (true, "6f994bc4384506fd34f3e771ee476e4cc97137f52f82e071fdf92e8a01e60b8a"), looks := false }, kinds := [], alts := [], laidByText := true, laidKinds := [.data, .data], laidTests := true, laidLooks := .later }
def FnLayersFitCardSaid : Prop := Claim7.holds Tryd.pinned (.plain (OpenSpec.ofChange fnLayersFitSpec)) fnLayersFitCard

/-- THE TIED CARD OF 'laws.FnGroups'. -/
def fnGroupsCard : Claim7 := { stood := { row := fnGroupsRow, standIns := [], harness := (true, "6f994bc4384506fd34f3e771ee476e4cc97137f52f82e071fdf92e8a01e60b8a"), looks := false }, kinds := [], alts := [], laidByText := true, laidKinds := [.data, .data], laidTests := true, laidLooks := .later }
def FnGroupsCardSaid : Prop := Claim7.holds Tryd.pinned (.plain (OpenSpec.ofChange fnGroupsSpec)) fnGroupsCard

/-- THE TIED CARD OF 'laws.FnLinks'. -/
def fnLinksCard : Claim7 := { stood := { row := fnLinksRow, standIns := [], harness := (true, "6f994bc4384506fd34f3e771ee476e4cc97137f52f82e071fdf92e8a01e60b8a"), looks := false }, kinds := [], alts := [], laidByText := true, laidKinds := [.data, .data], laidTests := true, laidLooks := .later }
def FnLinksCardSaid : Prop := Claim7.holds Tryd.pinned (.plain (OpenSpec.ofChange fnLinksSpec)) fnLinksCard

/-- THE TIED CARD OF 'laws.FnExactLeapOrders'. -/
def fnExactLeapOrdersCard : Claim7 := { stood := { row := fnExactLeapOrdersRow, standIns := [], harness := (true, "6f994bc4384506fd34f3e771ee476e4cc97137f52f82e071fdf92e8a01e60b8a"), looks := false }, kinds := [], alts := [], laidByText := true, laidKinds := [.data, .data], laidTests := true, laidLooks := .later }
def FnExactLeapOrdersCardSaid : Prop := Claim7.holds Tryd.pinned (.plain (OpenSpec.ofChange fnExactLeapOrdersSpec)) fnExactLeapOrdersCard

/-- THE SECOND FORM's CARD OF 'laws.FnLayers'. -/
def fnLayersUptoCard : Claim7 := { stood := { row := fnLayersUptoRow, standIns := [], harness := (true, "6f994bc4384506fd34f3e771ee476e4cc97137f52f82e071fdf92e8a01e60b8a"), looks := false }, kinds := [], alts := [], laidByText := true, laidKinds := [.data, .data], laidTests := true, laidLooks := .later }
def FnLayersUptoCardSaid : Prop := Claim7.holds Tryd.pinned (.plain (OpenSpec.upto fnLayersSpec)) fnLayersUptoCard

/-- THE SECOND FORM's CARD OF 'laws.FnLayersFit'. -/
def fnLayersFitUptoCard : Claim7 := { stood := { row := fnLayersFitUptoRow, standIns := [], harness := (true, "6f994bc4384506fd34f3e771ee476e4cc97137f52f82e071fdf92e8a01e60b8a"), looks := false }, kinds := [], alts := [], laidByText := true, laidKinds := [.data, .data], laidTests := true, laidLooks := .later }
def FnLayersFitUptoCardSaid : Prop := Claim7.holds Tryd.pinned (.plain (OpenSpec.upto fnLayersFitSpec)) fnLayersFitUptoCard

/-- THE SECOND FORM's CARD OF 'laws.FnGroups'. -/
def fnGroupsUptoCard : Claim7 := { stood := { row := fnGroupsUptoRow, standIns := [], harness := (true, "6f994bc4384506fd34f3e771ee476e4cc97137f52f82e071fdf92e8a01e60b8a"), looks := false }, kinds := [], alts := [], laidByText := true, laidKinds := [.data, .data], laidTests := true, laidLooks := .later }
def FnGroupsUptoCardSaid : Prop := Claim7.holds Tryd.pinned (.plain (OpenSpec.upto fnGroupsSpec)) fnGroupsUptoCard

/-- THE SECOND FORM's CARD OF 'laws.FnLinks'. -/
def fnLinksUptoCard : Claim7 := { stood := { row := fnLinksUptoRow, standIns := [], harness := (true, "6f994bc4384506fd34f3e771ee476e4cc97137f52f82e071fdf92e8a01e60b8a"), looks := false }, kinds := [], alts := [], laidByText := true, laidKinds := [.data, .data], laidTests := true, laidLooks := .later }
def FnLinksUptoCardSaid : Prop := Claim7.holds Tryd.pinned (.plain (OpenSpec.upto fnLinksSpec)) fnLinksUptoCard

/-- THE SECOND FORM's CARD OF 'laws.FnExactLeapOrders'. -/
def fnExactLeapOrdersUptoCard : Claim7 := { stood := { row := fnExactLeapOrdersUptoRow, standIns := [], harness := (true, "6f994bc4384506fd34f3e771ee476e4cc97137f52f82e071fdf92e8a01e60b8a"), looks := false }, kinds := [], alts := [], laidByText := true, laidKinds := [.data, .data], laidTests := true, laidLooks := .later }
def FnExactLeapOrdersUptoCardSaid : Prop := Claim7.holds Tryd.pinned (.plain (OpenSpec.upto fnExactLeapOrdersSpec)) fnExactLeapOrdersUptoCard
end Rows
end Go.Proofs.YtokmmloakahkhaaDoor
