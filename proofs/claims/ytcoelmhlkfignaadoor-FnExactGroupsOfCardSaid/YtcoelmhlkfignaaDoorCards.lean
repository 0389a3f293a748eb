/-
  DERIVED. GIVEN WITH THE SEED: THE CARDS: each row of YtcoelmhlkfignaaDoorRows.lean that lists a variable, with what it lists TIED to the program's text (the seventh form; the later family's looks); each row that meets fmt, with fmt's text TOLD by the authors' own Lean function (tested against real Go, not proved from fmt's source: count such statements apart). THE CARD IS WHAT COUNTS. Prove the row's statement (the work); the ties are given (YtcoelmhlkfignaaDoorTie.lean); close each card by the builder's one call (the guide's Derived/Test/ToyasCard.lean, 'card_holds'). Laid BY PROGRAM, IN A SANDBOX (cutbox-door.mjs). By AI agents, Wed Nov 11 2026. No macro, syntax, notation, axiom, sorry.
-/
import Derived.Test.YtcoelmhlkfignaaDoorRows
import GoSem.ClaimSeven
namespace Go.Proofs.YtcoelmhlkfignaaDoor
namespace Rows

/-- THE TIED CARD OF 'laws.FnExactReaches'. -/
def fnExactReachesCard : Claim7 := { stood := { row := fnExactReachesRow, standIns := [], harness := (true, "89069972cc508f8cf5f997ce4745a7925f42ae071dd32f0e4fe41eb750c03e8f"), looks := false }, kinds := [], alts := [], laidByText := true, laidKinds := [.data, .data], laidTests := true, laidLooks := .later }
def FnExactReachesCardSaid : Prop := Claim7.holds Tryd.pinned (.plain (OpenSpec.ofChange fnExactReachesSpec)) fnExactReachesCard

/-- THE TIED CARD OF 'laws.FnExactGroupsOf'. -/
def fnExactGroupsOfCard : Claim7 := { stood := { row := fnExactGroupsOfRow, standIns := [], harness := (true, "89069972cc508f8cf5f997ce4745a7925f42ae071dd32f0e4fe41eb750c03e8f"), looks := false }, kinds := [], alts := [], laidByText := true, laidKinds := [.data, .data], laidTests := true, laidLooks := .later }
def FnExactGroupsOfCardSaid : Prop := Claim7.holds Tryd.pinned (.plain (OpenSpec.ofChange fnExactGroupsOfSpec)) fnExactGroupsOfCard

/-- THE TIED CARD OF 'laws.FnExactLayersOf'. -/
def fnExactLayersOfCard : Claim7 := { stood := { row := fnExactLayersOfRow, standIns := [], harness := (true, "89069972cc508f8cf5f997ce4745a7925f42ae071dd32f0e4fe41eb750c03e8f"), looks := false }, kinds := [], alts := [], laidByText := true, laidKinds := [.data, .data], laidTests := true, laidLooks := .later }
def FnExactLayersOfCardSaid : Prop := Claim7.holds Tryd.pinned (.plain (OpenSpec.ofChange fnExactLayersOfSpec)) fnExactLayersOfCard

/-- THE SECOND FORM's CARD OF 'laws.FnExactReaches'. -/
def fnExactReachesUptoCard : Claim7 := { stood := { row := fnExactReachesUptoRow, standIns := [], harness := (true, "89069972cc508f8cf5f997ce4745a7925f42ae071dd32f0e4fe41eb750c03e8f"), looks := false }, kinds := [], alts := [], laidByText := true, laidKinds := [.data, .data], laidTests := true, laidLooks := .later }
def FnExactReachesUptoCardSaid : Prop := Claim7.holds Tryd.pinned (.plain (OpenSpec.upto fnExactReachesSpec)) fnExactReachesUptoCard

/-- THE SECOND FORM's CARD OF 'laws.FnExactGroupsOf'. -/
def fnExactGroupsOfUptoCard : Claim7 := { stood := { row := fnExactGroupsOfUptoRow, standIns := [], harness := (true, "89069972cc508f8cf5f997ce4745a7925f42ae071dd32f0e4fe41eb750c03e8f"), looks := false }, kinds := [], alts := [], laidByText := true, laidKinds := [.data, .data], laidTests := true, laidLooks := .later }
def FnExactGroupsOfUptoCardSaid : Prop := Claim7.holds Tryd.pinned (.plain (OpenSpec.upto fnExactGroupsOfSpec)) fnExactGroupsOfUptoCard

/-- THE SECOND FORM's CARD OF 'laws.FnExactLayersOf'. -/
def fnExactLayersOfUptoCard : Claim7 := { stood := { row := fnExactLayersOfUptoRow, standIns := [], harness := (true, "89069972cc508f8cf5f997ce4745a7925f42ae071dd32f0e4fe41eb750c03e8f"), looks := false }, kinds := [], alts := [], laidByText := true, laidKinds := [.data, .data], laidTests := true, laidLooks := .later }
def FnExactLayersOfUptoCardSaid : Prop := Claim7.holds Tryd.pinned (.plain (OpenSpec.upto fnExactLayersOfSpec)) fnExactLayersOfUptoCard
end Rows
end Go.Proofs.YtcoelmhlkfignaaDoor
