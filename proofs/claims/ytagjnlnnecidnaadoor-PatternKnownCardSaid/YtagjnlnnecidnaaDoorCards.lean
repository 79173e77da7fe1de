/-
  DERIVED. GIVEN WITH THE SEED: THE CARDS: each row of YtagjnlnnecidnaaDoorRows.lean that lists a variable, with what it lists TIED to the program's text (the seventh form; the later family's looks); each row that meets fmt, with fmt's text TOLD by the authors' own Lean function (tested against real Go, not proved from fmt's source: count such statements apart). THE CARD IS WHAT COUNTS. Prove the row's statement (the work); the ties are given (YtagjnlnnecidnaaDoorTie.lean); close each card by the builder's one call (the guide's Derived/Test/ToyasCard.lean, 'card_holds'). Laid BY PROGRAM, IN A SANDBOX (cutbox-door.mjs). By AI agents, Wed Nov 11 2026. No macro, syntax, notation, axiom, sorry.
-/
import Derived.Test.YtagjnlnnecidnaaDoorRows
import GoSem.ClaimSeven
namespace Go.Proofs.YtagjnlnnecidnaaDoor
namespace Rows

/-- THE TIED CARD OF 'aigrettelaw13.PatternKnown'. -/
def patternKnownCard : Claim7 := { stood := { row := patternKnownRow, standIns := [], harness := (true, "f740d72a89b45fb1976bfa94a5d1fe0aa545677bd1ccfdab0151e2a512618326"), looks := true }, kinds := [], alts := [], laidByText := true, laidKinds := [.data, .data], laidTests := true, laidLooks := .later }
def PatternKnownCardSaid : Prop := Claim7.holds Tryd.pinned (.plain (OpenSpec.ofChange patternKnownSpec)) patternKnownCard

/-- THE SECOND FORM's CARD OF 'aigrettelaw13.PatternKnown'. -/
def patternKnownUptoCard : Claim7 := { stood := { row := patternKnownUptoRow, standIns := [], harness := (true, "f740d72a89b45fb1976bfa94a5d1fe0aa545677bd1ccfdab0151e2a512618326"), looks := true }, kinds := [], alts := [], laidByText := true, laidKinds := [.data, .data], laidTests := true, laidLooks := .later }
def PatternKnownUptoCardSaid : Prop := Claim7.holds Tryd.pinned (.plain (OpenSpec.upto patternKnownSpec)) patternKnownUptoCard
end Rows
end Go.Proofs.YtagjnlnnecidnaaDoor
