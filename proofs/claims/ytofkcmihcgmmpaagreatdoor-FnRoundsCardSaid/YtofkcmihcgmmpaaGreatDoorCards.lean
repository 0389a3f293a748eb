/-
  DERIVED. GIVEN WITH THE SEED: THE CARDS: each row of YtofkcmihcgmmpaaGreatDoorRows.lean that lists a variable, with what it lists TIED to the program's text (the seventh form; the later family's looks); each row that meets fmt, with fmt's text TOLD by the authors' own Lean function (tested against real Go, not proved from fmt's source: count such statements apart). THE CARD IS WHAT COUNTS. Prove the row's statement (the work); the ties are given (YtofkcmihcgmmpaaGreatDoorTie.lean); close each card by the builder's one call (the guide's Derived/Test/ToyasCard.lean, 'card_holds'). Laid BY PROGRAM, IN A SANDBOX (cutbox-door.mjs). By AI agents, Wed Nov 11 2026. No macro, syntax, notation, axiom, sorry.
-/
import Derived.Test.YtofkcmihcgmmpaaGreatDoorRows
import GoSem.ClaimSeven
namespace Go.Proofs.YtofkcmihcgmmpaaGreatDoor
namespace Rows

/-- THE TIED CARD OF 'laws.FnLeast'. -/
def fnLeastCard : Claim7 := { stood := { row := fnLeastRow, standIns := [], harness := (true, "a898150b3e57ef69710a9ceff96c21c6d3d59c749694ace518ff4bc4186d9c87"), looks := false }, kinds := [], alts := [], laidByText := true, laidKinds := [.data], laidTests := true, laidLooks := .later }
def FnLeastCardSaid : Prop := Claim7.holds Tryz.pinned (.plain (OpenSpec.ofChange fnLeastSpec)) fnLeastCard

/-- THE TIED CARD OF 'laws.FnRounds'. -/
def fnRoundsCard : Claim7 := { stood := { row := fnRoundsRow, standIns := [], harness := (true, "a898150b3e57ef69710a9ceff96c21c6d3d59c749694ace518ff4bc4186d9c87"), looks := false }, kinds := [], alts := [], laidByText := true, laidKinds := [.data], laidTests := true, laidLooks := .later }
def FnRoundsCardSaid : Prop := Claim7.holds Tryz.pinned (.plain (OpenSpec.ofChange fnRoundsSpec)) fnRoundsCard

/-- THE TIED CARD OF 'laws.FnLeastMore'. -/
def fnLeastMoreCard : Claim7 := { stood := { row := fnLeastMoreRow, standIns := [], harness := (true, "a898150b3e57ef69710a9ceff96c21c6d3d59c749694ace518ff4bc4186d9c87"), looks := false }, kinds := [], alts := [], laidByText := true, laidKinds := [.data], laidTests := true, laidLooks := .later }
def FnLeastMoreCardSaid : Prop := Claim7.holds Tryz.pinned (.plain (OpenSpec.ofChange fnLeastMoreSpec)) fnLeastMoreCard

/-- THE SECOND FORM's CARD OF 'laws.FnLeast'. -/
def fnLeastUptoCard : Claim7 := { stood := { row := fnLeastUptoRow, standIns := [], harness := (true, "a898150b3e57ef69710a9ceff96c21c6d3d59c749694ace518ff4bc4186d9c87"), looks := false }, kinds := [], alts := [], laidByText := true, laidKinds := [.data], laidTests := true, laidLooks := .later }
def FnLeastUptoCardSaid : Prop := Claim7.holds Tryz.pinned (.plain (OpenSpec.upto fnLeastSpec)) fnLeastUptoCard

/-- THE SECOND FORM's CARD OF 'laws.FnRounds'. -/
def fnRoundsUptoCard : Claim7 := { stood := { row := fnRoundsUptoRow, standIns := [], harness := (true, "a898150b3e57ef69710a9ceff96c21c6d3d59c749694ace518ff4bc4186d9c87"), looks := false }, kinds := [], alts := [], laidByText := true, laidKinds := [.data], laidTests := true, laidLooks := .later }
def FnRoundsUptoCardSaid : Prop := Claim7.holds Tryz.pinned (.plain (OpenSpec.upto fnRoundsSpec)) fnRoundsUptoCard

/-- THE SECOND FORM's CARD OF 'laws.FnLeastMore'. -/
def fnLeastMoreUptoCard : Claim7 := { stood := { row := fnLeastMoreUptoRow, standIns := [], harness := (true, "a898150b3e57ef69710a9ceff96c21c6d3d59c749694ace518ff4bc4186d9c87"), looks := false }, kinds := [], alts := [], laidByText := true, laidKinds := [.data], laidTests := true, laidLooks := .later }
def FnLeastMoreUptoCardSaid : Prop := Claim7.holds Tryz.pinned (.plain (OpenSpec.upto fnLeastMoreSpec)) fnLeastMoreUptoCard
end Rows
end Go.Proofs.YtofkcmihcgmmpaaGreatDoor
