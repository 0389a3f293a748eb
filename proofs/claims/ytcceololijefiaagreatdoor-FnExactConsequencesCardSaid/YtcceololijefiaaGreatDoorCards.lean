/-
  DERIVED. GIVEN WITH THE SEED: THE CARDS: each row of YtcceololijefiaaGreatDoorRows.lean that lists a variable, with what it lists TIED to the program's text (the seventh form; the later family's looks); each row that meets fmt, with fmt's text TOLD by the authors' own Lean function (tested against real Go, not proved from fmt's source: count such statements apart). THE CARD IS WHAT COUNTS. Prove the row's statement (the work); the ties are given (YtcceololijefiaaGreatDoorTie.lean); close each card by the builder's one call (the guide's Derived/Test/ToyasCard.lean, 'card_holds'). Laid BY PROGRAM, IN A SANDBOX (cutbox-door.mjs). By AI agents, Wed Nov 11 2026. No macro, syntax, notation, axiom, sorry.
-/
import Derived.Test.YtcceololijefiaaGreatDoorRows
import GoSem.ClaimSeven
namespace Go.Proofs.YtcceololijefiaaGreatDoor
namespace Rows

/-- THE TIED CARD OF 'laws.FnExactConsequences'. -/
def fnExactConsequencesCard : Claim7 := { stood := { row := fnExactConsequencesRow, standIns := [], harness := (true, "ef937f0118c82ede225e4315fbcd2d98728b7cd96df6c84ae42ae58ad88ce589"), looks := false }, kinds := [], alts := [], laidByText := true, laidKinds := [.data], laidTests := true, laidLooks := .later }
def FnExactConsequencesCardSaid : Prop := Claim7.holds Tryz.pinned (.plain (OpenSpec.ofChange fnExactConsequencesSpec)) fnExactConsequencesCard

/-- THE SECOND FORM's CARD OF 'laws.FnExactConsequences'. -/
def fnExactConsequencesUptoCard : Claim7 := { stood := { row := fnExactConsequencesUptoRow, standIns := [], harness := (true, "ef937f0118c82ede225e4315fbcd2d98728b7cd96df6c84ae42ae58ad88ce589"), looks := false }, kinds := [], alts := [], laidByText := true, laidKinds := [.data], laidTests := true, laidLooks := .later }
def FnExactConsequencesUptoCardSaid : Prop := Claim7.holds Tryz.pinned (.plain (OpenSpec.upto fnExactConsequencesSpec)) fnExactConsequencesUptoCard
end Rows
end Go.Proofs.YtcceololijefiaaGreatDoor
