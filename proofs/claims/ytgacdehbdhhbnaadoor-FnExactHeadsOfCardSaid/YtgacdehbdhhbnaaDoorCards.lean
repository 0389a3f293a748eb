/-
  DERIVED. GIVEN WITH THE SEED: THE CARDS: each row of YtgacdehbdhhbnaaDoorRows.lean that lists a variable, with what it lists TIED to the program's text (the seventh form; the later family's looks); each row that meets fmt, with fmt's text TOLD by the authors' own Lean function (tested against real Go, not proved from fmt's source: count such statements apart). THE CARD IS WHAT COUNTS. Prove the row's statement (the work); the ties are given (YtgacdehbdhhbnaaDoorTie.lean); close each card by the builder's one call (the guide's Derived/Test/ToyasCard.lean, 'card_holds'). Laid BY PROGRAM, IN A SANDBOX (cutbox-door.mjs). By AI agents, Wed Nov 11 2026. No macro, syntax, notation, axiom, sorry.
-/
import Derived.Test.YtgacdehbdhhbnaaDoorRows
import GoSem.ClaimSeven
namespace Go.Proofs.YtgacdehbdhhbnaaDoor
namespace Rows

/-- THE TIED CARD OF 'laws.FnExactVarsOf'. -/
def fnExactVarsOfCard : Claim7 := { stood := { row := fnExactVarsOfRow, standIns := [], harness := (true, "48bea8edfedaff5694916b69c524f844195fdafb905fd5798b54dce6bb5bfa5b"), looks := false }, kinds := [], alts := [], laidByText := true, laidKinds := [.data, .data], laidTests := true, laidLooks := .later }
def FnExactVarsOfCardSaid : Prop := Claim7.holds Tryd.pinned (.plain (OpenSpec.ofChange fnExactVarsOfSpec)) fnExactVarsOfCard

/-- THE TIED CARD OF 'laws.FnExactHeadsOf'. -/
def fnExactHeadsOfCard : Claim7 := { stood := { row := fnExactHeadsOfRow, standIns := [], harness := (true, "48bea8edfedaff5694916b69c524f844195fdafb905fd5798b54dce6bb5bfa5b"), looks := false }, kinds := [], alts := [], laidByText := true, laidKinds := [.data, .data], laidTests := true, laidLooks := .later }
def FnExactHeadsOfCardSaid : Prop := Claim7.holds Tryd.pinned (.plain (OpenSpec.ofChange fnExactHeadsOfSpec)) fnExactHeadsOfCard

/-- THE SECOND FORM's CARD OF 'laws.FnExactVarsOf'. -/
def fnExactVarsOfUptoCard : Claim7 := { stood := { row := fnExactVarsOfUptoRow, standIns := [], harness := (true, "48bea8edfedaff5694916b69c524f844195fdafb905fd5798b54dce6bb5bfa5b"), looks := false }, kinds := [], alts := [], laidByText := true, laidKinds := [.data, .data], laidTests := true, laidLooks := .later }
def FnExactVarsOfUptoCardSaid : Prop := Claim7.holds Tryd.pinned (.plain (OpenSpec.upto fnExactVarsOfSpec)) fnExactVarsOfUptoCard

/-- THE SECOND FORM's CARD OF 'laws.FnExactHeadsOf'. -/
def fnExactHeadsOfUptoCard : Claim7 := { stood := { row := fnExactHeadsOfUptoRow, standIns := [], harness := (true, "48bea8edfedaff5694916b69c524f844195fdafb905fd5798b54dce6bb5bfa5b"), looks := false }, kinds := [], alts := [], laidByText := true, laidKinds := [.data, .data], laidTests := true, laidLooks := .later }
def FnExactHeadsOfUptoCardSaid : Prop := Claim7.holds Tryd.pinned (.plain (OpenSpec.upto fnExactHeadsOfSpec)) fnExactHeadsOfUptoCard
end Rows
end Go.Proofs.YtgacdehbdhhbnaaDoor
