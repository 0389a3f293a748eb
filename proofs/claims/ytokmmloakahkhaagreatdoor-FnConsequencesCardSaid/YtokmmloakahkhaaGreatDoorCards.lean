/-
  DERIVED. GIVEN WITH THE SEED: THE CARDS: each row of YtokmmloakahkhaaGreatDoorRows.lean that lists a variable, with what it lists TIED to the program's text (the seventh form; the later family's looks); each row that meets fmt, with fmt's text TOLD by the authors' own Lean function (tested against real Go, not proved from fmt's source: count such statements apart). THE CARD IS WHAT COUNTS. Prove the row's statement (the work); the ties are given (YtokmmloakahkhaaGreatDoorTie.lean); close each card by the builder's one call (the guide's Derived/Test/ToyasCard.lean, 'card_holds'). Laid BY PROGRAM, IN A SANDBOX (cutbox-door.mjs). By AI agents, Wed Nov 11 2026. No macro, syntax, notation, axiom, sorry.
-/
import Derived.Test.YtokmmloakahkhaaGreatDoorRows
import GoSem.ClaimSeven
namespace Go.Proofs.YtokmmloakahkhaaGreatDoor
namespace Rows

/-- THE TIED CARD OF 'laws.FnConsequences'. -/
def fnConsequencesCard : Claim7 := { stood := { row := fnConsequencesRow, standIns := [], harness := (true, "af1846b8f8cba844fca0874906ab69ccebca6f99a8098cd3f4789bc959c9edbc"), looks := false }, kinds := [], alts := [], laidByText := true, laidKinds := [.data], laidTests := true, laidLooks := .later }
def FnConsequencesCardSaid : Prop := Claim7.holds Tryz.pinned (.plain (OpenSpec.ofChange fnConsequencesSpec)) fnConsequencesCard

/-- THE TIED CARD OF 'laws.FnExactLeapFits'. -/
def fnExactLeapFitsCard : Claim7 := { stood := { row := fnExactLeapFitsRow, standIns := [], harness := (true, "af1846b8f8cba844fca0874906ab69ccebca6f99a8098cd3f4789bc959c9edbc"), looks := false }, kinds := [], alts := [], laidByText := true, laidKinds := [.data, .data], laidTests := true, laidLooks := .later }
def FnExactLeapFitsCardSaid : Prop := Claim7.holds Tryz.pinned (.plain (OpenSpec.ofChange fnExactLeapFitsSpec)) fnExactLeapFitsCard

/-- THE SECOND FORM's CARD OF 'laws.FnConsequences'. -/
def fnConsequencesUptoCard : Claim7 := { stood := { row := fnConsequencesUptoRow, standIns := [], harness := (true, "af1846b8f8cba844fca0874906ab69ccebca6f99a8098cd3f4789bc959c9edbc"), looks := false }, kinds := [], alts := [], laidByText := true, laidKinds := [.data], laidTests := true, laidLooks := .later }
def FnConsequencesUptoCardSaid : Prop := Claim7.holds Tryz.pinned (.plain (OpenSpec.upto fnConsequencesSpec)) fnConsequencesUptoCard

/-- THE SECOND FORM's CARD OF 'laws.FnExactLeapFits'. -/
def fnExactLeapFitsUptoCard : Claim7 := { stood := { row := fnExactLeapFitsUptoRow, standIns := [], harness := (true, "af1846b8f8cba844fca0874906ab69ccebca6f99a8098cd3f4789bc959c9edbc"), looks := false }, kinds := [], alts := [], laidByText := true, laidKinds := [.data, .data], laidTests := true, laidLooks := .later }
def FnExactLeapFitsUptoCardSaid : Prop := Claim7.holds Tryz.pinned (.plain (OpenSpec.upto fnExactLeapFitsSpec)) fnExactLeapFitsUptoCard
end Rows
end Go.Proofs.YtokmmloakahkhaaGreatDoor
