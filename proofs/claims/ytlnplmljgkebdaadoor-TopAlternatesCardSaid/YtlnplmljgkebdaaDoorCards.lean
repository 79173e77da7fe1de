/-
  DERIVED. GIVEN WITH THE SEED: THE CARDS: each row of YtlnplmljgkebdaaDoorRows.lean that lists a variable, with what it lists TIED to the program's text (the seventh form; the later family's looks); each row that meets fmt, with fmt's text TOLD by the authors' own Lean function (tested against real Go, not proved from fmt's source: count such statements apart). THE CARD IS WHAT COUNTS. Prove the row's statement (the work); the ties are given (YtlnplmljgkebdaaDoorTie.lean); close each card by the builder's one call (the guide's Derived/Test/ToyasCard.lean, 'card_holds'). Laid BY PROGRAM, IN A SANDBOX (cutbox-door.mjs). By AI agents, Wed Nov 11 2026. No macro, syntax, notation, axiom, sorry.
-/
import Derived.Test.YtlnplmljgkebdaaDoorRows
import GoSem.ClaimSeven
namespace Go.Proofs.YtlnplmljgkebdaaDoor
namespace Rows

/-- THE TIED CARD OF 'aigrettetop.TopAlternates'. -/
def topAlternatesCard : Claim7 := { stood := { row := topAlternatesRow, standIns := [], harness := (true, "dc7fa0053b4a05ee9af8a20c2c2e5a94a100c1cf814e72b097fece1d086721d5"), looks := false }, kinds := [], alts := [], laidByText := true, laidKinds := [.data, .data], laidTests := true, laidLooks := .later }
def TopAlternatesCardSaid : Prop := Claim7.holds Tryd.pinned (.plain (OpenSpec.ofChange topAlternatesSpec)) topAlternatesCard

/-- THE SECOND FORM's CARD OF 'aigrettetop.TopAlternates'. -/
def topAlternatesUptoCard : Claim7 := { stood := { row := topAlternatesUptoRow, standIns := [], harness := (true, "dc7fa0053b4a05ee9af8a20c2c2e5a94a100c1cf814e72b097fece1d086721d5"), looks := false }, kinds := [], alts := [], laidByText := true, laidKinds := [.data, .data], laidTests := true, laidLooks := .later }
def TopAlternatesUptoCardSaid : Prop := Claim7.holds Tryd.pinned (.plain (OpenSpec.upto topAlternatesSpec)) topAlternatesUptoCard
end Rows
end Go.Proofs.YtlnplmljgkebdaaDoor
