/-
  DERIVED. GIVEN WITH THE SEED: THE CARDS: each row of YtmgkobjocmgghaaDoorRows.lean that lists a variable, with what it lists TIED to the program's text (the seventh form; the later family's looks); each row that meets fmt, with fmt's text TOLD by the authors' own Lean function (tested against real Go, not proved from fmt's source: count such statements apart). THE CARD IS WHAT COUNTS. Prove the row's statement (the work); the ties are given (YtmgkobjocmgghaaDoorTie.lean); close each card by the builder's one call (the guide's Derived/Test/ToyasCard.lean, 'card_holds'). Laid BY PROGRAM, IN A SANDBOX (cutbox-door.mjs). By AI agents, Wed Nov 11 2026. No macro, syntax, notation, axiom, sorry.
-/
import Derived.Test.YtmgkobjocmgghaaDoorRows
import GoSem.ClaimSeven
namespace Go.Proofs.YtmgkobjocmgghaaDoor
namespace Rows

/-- THE TIED CARD OF 'aigrettetop.TopDigits'. -/
def topDigitsCard : Claim7 := { stood := { row := topDigitsRow, standIns := [], harness := (true, "fc70f0ec8b4e5f7604d0a8d78535f3aaeb0ff71e76d58bb9d1f07e4941cf545c"), looks := false }, kinds := [], alts := [], laidByText := true, laidKinds := [.data, .data], laidTests := true, laidLooks := .later }
def TopDigitsCardSaid : Prop := Claim7.holds Tryd.pinned (.plain (OpenSpec.ofChange topDigitsSpec)) topDigitsCard

/-- THE TIED CARD OF 'aigrettetop.TopNearer'. -/
def topNearerCard : Claim7 := { stood := { row := topNearerRow, standIns := [], harness := (true, "fc70f0ec8b4e5f7604d0a8d78535f3aaeb0ff71e76d58bb9d1f07e4941cf545c"), looks := false }, kinds := [], alts := [], laidByText := true, laidKinds := [.data, .data], laidTests := true, laidLooks := .later }
def TopNearerCardSaid : Prop := Claim7.holds Tryd.pinned (.plain (OpenSpec.ofChange topNearerSpec)) topNearerCard

/-- THE SECOND FORM's CARD OF 'aigrettetop.TopDigits'. -/
def topDigitsUptoCard : Claim7 := { stood := { row := topDigitsUptoRow, standIns := [], harness := (true, "fc70f0ec8b4e5f7604d0a8d78535f3aaeb0ff71e76d58bb9d1f07e4941cf545c"), looks := false }, kinds := [], alts := [], laidByText := true, laidKinds := [.data, .data], laidTests := true, laidLooks := .later }
def TopDigitsUptoCardSaid : Prop := Claim7.holds Tryd.pinned (.plain (OpenSpec.upto topDigitsSpec)) topDigitsUptoCard

/-- THE SECOND FORM's CARD OF 'aigrettetop.TopNearer'. -/
def topNearerUptoCard : Claim7 := { stood := { row := topNearerUptoRow, standIns := [], harness := (true, "fc70f0ec8b4e5f7604d0a8d78535f3aaeb0ff71e76d58bb9d1f07e4941cf545c"), looks := false }, kinds := [], alts := [], laidByText := true, laidKinds := [.data, .data], laidTests := true, laidLooks := .later }
def TopNearerUptoCardSaid : Prop := Claim7.holds Tryd.pinned (.plain (OpenSpec.upto topNearerSpec)) topNearerUptoCard
end Rows
end Go.Proofs.YtmgkobjocmgghaaDoor
