/-
  DERIVED. GIVEN WITH THE SEED: THE CARDS: each row of YtkbagfcklodfnaaGreatDoorRows.lean that lists a variable, with what it lists TIED to the program's text (the seventh form; the later family's looks); each row that meets fmt, with fmt's text TOLD by the authors' own Lean function (tested against real Go, not proved from fmt's source: count such statements apart). THE CARD IS WHAT COUNTS. Prove the row's statement (the work); the ties are given (YtkbagfcklodfnaaGreatDoorTie.lean); close each card by the builder's one call (the guide's Derived/Test/ToyasCard.lean, 'card_holds'). Laid BY PROGRAM, IN A SANDBOX (cutbox-door.mjs). By AI agents, Wed Nov 11 2026. No macro, syntax, notation, axiom, sorry.
-/
import Derived.Test.YtkbagfcklodfnaaGreatDoorRows
import GoSem.ClaimSeven
namespace Go.Proofs.YtkbagfcklodfnaaGreatDoor
namespace Rows

/-- THE TIED CARD OF 'aigrettetop.TopDegreed'. -/
def topDegreedCard : Claim7 := { stood := { row := topDegreedRow, standIns := [], harness := (true, "e9900732b58cab17eeb9440b4a32b470db36aea31d6a5aed76dd434996b19821"), looks := true }, kinds := [], alts := [], laidByText := true, laidKinds := [.data, .data], laidTests := true, laidLooks := .later }
def TopDegreedCardSaid : Prop := Claim7.holds Tryz.pinned (.plain (OpenSpec.ofChange topDegreedSpec)) topDegreedCard

/-- THE SECOND FORM's CARD OF 'aigrettetop.TopDegreed'. -/
def topDegreedUptoCard : Claim7 := { stood := { row := topDegreedUptoRow, standIns := [], harness := (true, "e9900732b58cab17eeb9440b4a32b470db36aea31d6a5aed76dd434996b19821"), looks := true }, kinds := [], alts := [], laidByText := true, laidKinds := [.data, .data], laidTests := true, laidLooks := .later }
def TopDegreedUptoCardSaid : Prop := Claim7.holds Tryz.pinned (.plain (OpenSpec.upto topDegreedSpec)) topDegreedUptoCard
end Rows
end Go.Proofs.YtkbagfcklodfnaaGreatDoor
