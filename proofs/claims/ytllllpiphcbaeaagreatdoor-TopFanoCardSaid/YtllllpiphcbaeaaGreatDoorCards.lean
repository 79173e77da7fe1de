/-
  DERIVED. GIVEN WITH THE SEED: THE CARDS: each row of YtllllpiphcbaeaaGreatDoorRows.lean that lists a variable, with what it lists TIED to the program's text (the seventh form; the later family's looks); each row that meets fmt, with fmt's text TOLD by the authors' own Lean function (tested against real Go, not proved from fmt's source: count such statements apart). THE CARD IS WHAT COUNTS. Prove the row's statement (the work); the ties are given (YtllllpiphcbaeaaGreatDoorTie.lean); close each card by the builder's one call (the guide's Derived/Test/ToyasCard.lean, 'card_holds'). Laid BY PROGRAM, IN A SANDBOX (cutbox-door.mjs). By AI agents, Wed Nov 11 2026. No macro, syntax, notation, axiom, sorry.
-/
import Derived.Test.YtllllpiphcbaeaaGreatDoorRows
import GoSem.ClaimSeven
namespace Go.Proofs.YtllllpiphcbaeaaGreatDoor
namespace Rows

/-- THE TIED CARD OF 'aigrettetop.TopFano'. -/
def topFanoCard : Claim7 := { stood := { row := topFanoRow, standIns := [], harness := (true, "ac161cdda439cd56aeb225e4023981bb80366c9d71dde010462b9da65e7dfb46"), looks := false }, kinds := [], alts := [], laidByText := true, laidKinds := [.data, .data], laidTests := true, laidLooks := .later }
def TopFanoCardSaid : Prop := Claim7.holds Tryz.pinned (.plain (OpenSpec.ofChange topFanoSpec)) topFanoCard

/-- THE SECOND FORM's CARD OF 'aigrettetop.TopFano'. -/
def topFanoUptoCard : Claim7 := { stood := { row := topFanoUptoRow, standIns := [], harness := (true, "ac161cdda439cd56aeb225e4023981bb80366c9d71dde010462b9da65e7dfb46"), looks := false }, kinds := [], alts := [], laidByText := true, laidKinds := [.data, .data], laidTests := true, laidLooks := .later }
def TopFanoUptoCardSaid : Prop := Claim7.holds Tryz.pinned (.plain (OpenSpec.upto topFanoSpec)) topFanoUptoCard
end Rows
end Go.Proofs.YtllllpiphcbaeaaGreatDoor
