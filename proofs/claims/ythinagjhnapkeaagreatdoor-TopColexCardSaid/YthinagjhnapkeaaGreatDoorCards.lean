/-
  DERIVED. GIVEN WITH THE SEED: THE CARDS: each row of YthinagjhnapkeaaGreatDoorRows.lean that lists a variable, with what it lists TIED to the program's text (the seventh form; the later family's looks); each row that meets fmt, with fmt's text TOLD by the authors' own Lean function (tested against real Go, not proved from fmt's source: count such statements apart). THE CARD IS WHAT COUNTS. Prove the row's statement (the work); the ties are given (YthinagjhnapkeaaGreatDoorTie.lean); close each card by the builder's one call (the guide's Derived/Test/ToyasCard.lean, 'card_holds'). Laid BY PROGRAM, IN A SANDBOX (cutbox-door.mjs). By AI agents, Wed Nov 11 2026. No macro, syntax, notation, axiom, sorry.
-/
import Derived.Test.YthinagjhnapkeaaGreatDoorRows
import GoSem.ClaimSeven
namespace Go.Proofs.YthinagjhnapkeaaGreatDoor
namespace Rows

/-- THE TIED CARD OF 'aigrettetop.TopBrackets'. -/
def topBracketsCard : Claim7 := { stood := { row := topBracketsRow, standIns := [], harness := (true, "b3240aa8fc6c5a82994a37ccf5a48273feed7340f564029c69408f95eab93330"), looks := false }, kinds := [], alts := [], laidByText := true, laidKinds := [.data, .data], laidTests := true, laidLooks := .later }
def TopBracketsCardSaid : Prop := Claim7.holds Tryz.pinned (.plain (OpenSpec.ofChange topBracketsSpec)) topBracketsCard

/-- THE TIED CARD OF 'aigrettetop.TopColex'. -/
def topColexCard : Claim7 := { stood := { row := topColexRow, standIns := [], harness := (true, "b3240aa8fc6c5a82994a37ccf5a48273feed7340f564029c69408f95eab93330"), looks := false }, kinds := [], alts := [], laidByText := true, laidKinds := [.data, .data], laidTests := true, laidLooks := .later }
def TopColexCardSaid : Prop := Claim7.holds Tryz.pinned (.plain (OpenSpec.ofChange topColexSpec)) topColexCard

/-- THE SECOND FORM's CARD OF 'aigrettetop.TopBrackets'. -/
def topBracketsUptoCard : Claim7 := { stood := { row := topBracketsUptoRow, standIns := [], harness := (true, "b3240aa8fc6c5a82994a37ccf5a48273feed7340f564029c69408f95eab93330"), looks := false }, kinds := [], alts := [], laidByText := true, laidKinds := [.data, .data], laidTests := true, laidLooks := .later }
def TopBracketsUptoCardSaid : Prop := Claim7.holds Tryz.pinned (.plain (OpenSpec.upto topBracketsSpec)) topBracketsUptoCard

/-- THE SECOND FORM's CARD OF 'aigrettetop.TopColex'. -/
def topColexUptoCard : Claim7 := { stood := { row := topColexUptoRow, standIns := [], harness := (true, "b3240aa8fc6c5a82994a37ccf5a48273feed7340f564029c69408f95eab93330"), looks := false }, kinds := [], alts := [], laidByText := true, laidKinds := [.data, .data], laidTests := true, laidLooks := .later }
def TopColexUptoCardSaid : Prop := Claim7.holds Tryz.pinned (.plain (OpenSpec.upto topColexSpec)) topColexUptoCard
end Rows
end Go.Proofs.YthinagjhnapkeaaGreatDoor
