/-
  DERIVED. GIVEN WITH THE SEED: THE CARDS: each row of YtkbagfcklodfnaaDoorRows.lean that lists a variable, with what it lists TIED to the program's text (the seventh form; the later family's looks); each row that meets fmt, with fmt's text TOLD by the authors' own Lean function (tested against real Go, not proved from fmt's source: count such statements apart). THE CARD IS WHAT COUNTS. Prove the row's statement (the work); the ties are given (YtkbagfcklodfnaaDoorTie.lean); close each card by the builder's one call (the guide's Derived/Test/ToyasCard.lean, 'card_holds'). Laid BY PROGRAM, IN A SANDBOX (cutbox-door.mjs). By AI agents, Wed Nov 11 2026. No macro, syntax, notation, axiom, sorry.
-/
import Derived.Test.YtkbagfcklodfnaaDoorRows
import GoSem.ClaimSeven
namespace Go.Proofs.YtkbagfcklodfnaaDoor
namespace Rows

/-- THE TIED CARD OF 'aigrettetop.TopTakings'. -/
def topTakingsCard : Claim7 := { stood := { row := topTakingsRow, standIns := [], harness := (true, "0ba66b96497e58c792e19795d154cd47d4881a698cb4bd3884ea149ea891db78"), looks := false }, kinds := [], alts := [], laidByText := true, laidKinds := [.data, .data], laidTests := true, laidLooks := .later }
def TopTakingsCardSaid : Prop := Claim7.holds Tryd.pinned (.plain (OpenSpec.ofChange topTakingsSpec)) topTakingsCard

/-- THE TIED CARD OF 'aigrettetop.TopRuler'. -/
def topRulerCard : Claim7 := { stood := { row := topRulerRow, standIns := [], harness := (true, "0ba66b96497e58c792e19795d154cd47d4881a698cb4bd3884ea149ea891db78"), looks := false }, kinds := [], alts := [], laidByText := true, laidKinds := [.data, .data], laidTests := true, laidLooks := .later }
def TopRulerCardSaid : Prop := Claim7.holds Tryd.pinned (.plain (OpenSpec.ofChange topRulerSpec)) topRulerCard

/-- THE TIED CARD OF 'aigrettetop.TopBoxed'. -/
def topBoxedCard : Claim7 := { stood := { row := topBoxedRow, standIns := [], harness := (true, "0ba66b96497e58c792e19795d154cd47d4881a698cb4bd3884ea149ea891db78"), looks := false }, kinds := [], alts := [], laidByText := true, laidKinds := [.data, .data], laidTests := true, laidLooks := .later }
def TopBoxedCardSaid : Prop := Claim7.holds Tryd.pinned (.plain (OpenSpec.ofChange topBoxedSpec)) topBoxedCard

/-- THE SECOND FORM's CARD OF 'aigrettetop.TopTakings'. -/
def topTakingsUptoCard : Claim7 := { stood := { row := topTakingsUptoRow, standIns := [], harness := (true, "0ba66b96497e58c792e19795d154cd47d4881a698cb4bd3884ea149ea891db78"), looks := false }, kinds := [], alts := [], laidByText := true, laidKinds := [.data, .data], laidTests := true, laidLooks := .later }
def TopTakingsUptoCardSaid : Prop := Claim7.holds Tryd.pinned (.plain (OpenSpec.upto topTakingsSpec)) topTakingsUptoCard

/-- THE SECOND FORM's CARD OF 'aigrettetop.TopRuler'. -/
def topRulerUptoCard : Claim7 := { stood := { row := topRulerUptoRow, standIns := [], harness := (true, "0ba66b96497e58c792e19795d154cd47d4881a698cb4bd3884ea149ea891db78"), looks := false }, kinds := [], alts := [], laidByText := true, laidKinds := [.data, .data], laidTests := true, laidLooks := .later }
def TopRulerUptoCardSaid : Prop := Claim7.holds Tryd.pinned (.plain (OpenSpec.upto topRulerSpec)) topRulerUptoCard

/-- THE SECOND FORM's CARD OF 'aigrettetop.TopBoxed'. -/
def topBoxedUptoCard : Claim7 := { stood := { row := topBoxedUptoRow, standIns := [], harness := (true, "0ba66b96497e58c792e19795d154cd47d4881a698cb4bd3884ea149ea891db78"), looks := false }, kinds := [], alts := [], laidByText := true, laidKinds := [.data, .data], laidTests := true, laidLooks := .later }
def TopBoxedUptoCardSaid : Prop := Claim7.holds Tryd.pinned (.plain (OpenSpec.upto topBoxedSpec)) topBoxedUptoCard
end Rows
end Go.Proofs.YtkbagfcklodfnaaDoor
