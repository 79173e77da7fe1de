/-
  DERIVED. GIVEN WITH THE SEED: THE CARDS: each row of YtblgmohafnpecaaGreatDoorRows.lean that lists a variable, with what it lists TIED to the program's text (the seventh form; the later family's looks); each row that meets fmt, with fmt's text TOLD by the authors' own Lean function (tested against real Go, not proved from fmt's source: count such statements apart). THE CARD IS WHAT COUNTS. Prove the row's statement (the work); the ties are given (YtblgmohafnpecaaGreatDoorTie.lean); close each card by the builder's one call (the guide's Derived/Test/ToyasCard.lean, 'card_holds'). Laid BY PROGRAM, IN A SANDBOX (cutbox-door.mjs). By AI agents, Wed Nov 11 2026. No macro, syntax, notation, axiom, sorry.
-/
import Derived.Test.YtblgmohafnpecaaGreatDoorRows
import GoSem.ClaimSeven
namespace Go.Proofs.YtblgmohafnpecaaGreatDoor
namespace Rows

/-- THE TIED CARD OF 'aigrettetop.TopBunched'. -/
def topBunchedCard : Claim7 := { stood := { row := topBunchedRow, standIns := [], harness := (true, "6c6a9c19ceae4b042f11f952f3ab37dd6f2a37842e1c4ae30030cf5d0312c357"), looks := false }, kinds := [], alts := [], laidByText := true, laidKinds := [.data, .data], laidTests := true, laidLooks := .later }
def TopBunchedCardSaid : Prop := Claim7.holds Tryz.pinned (.plain (OpenSpec.ofChange topBunchedSpec)) topBunchedCard

/-- THE SECOND FORM's CARD OF 'aigrettetop.TopBunched'. -/
def topBunchedUptoCard : Claim7 := { stood := { row := topBunchedUptoRow, standIns := [], harness := (true, "6c6a9c19ceae4b042f11f952f3ab37dd6f2a37842e1c4ae30030cf5d0312c357"), looks := false }, kinds := [], alts := [], laidByText := true, laidKinds := [.data, .data], laidTests := true, laidLooks := .later }
def TopBunchedUptoCardSaid : Prop := Claim7.holds Tryz.pinned (.plain (OpenSpec.upto topBunchedSpec)) topBunchedUptoCard
end Rows
end Go.Proofs.YtblgmohafnpecaaGreatDoor
