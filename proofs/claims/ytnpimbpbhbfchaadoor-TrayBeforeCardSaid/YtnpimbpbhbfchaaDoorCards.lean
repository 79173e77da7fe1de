/-
  DERIVED. GIVEN WITH THE SEED: THE CARDS: each row of YtnpimbpbhbfchaaDoorRows.lean that lists a variable, with what it lists TIED to the program's text (the seventh form; the later family's looks); each row that meets fmt, with fmt's text TOLD by the authors' own Lean function (tested against real Go, not proved from fmt's source: count such statements apart). THE CARD IS WHAT COUNTS. Prove the row's statement (the work); the ties are given (YtnpimbpbhbfchaaDoorTie.lean); close each card by the builder's one call (the guide's Derived/Test/ToyasCard.lean, 'card_holds'). Laid BY PROGRAM, IN A SANDBOX (cutbox-door.mjs). By AI agents, Wed Nov 11 2026. No macro, syntax, notation, axiom, sorry.
-/
import Derived.Test.YtnpimbpbhbfchaaDoorRows
import GoSem.ClaimSeven
namespace Go.Proofs.YtnpimbpbhbfchaaDoor
namespace Rows

/-- THE TIED CARD OF 'aigrettelaw08.TrayChained'. -/
def trayChainedCard : Claim7 := { stood := { row := trayChainedRow, standIns := [], harness := (true, "8d620e58018597c568bdf6b1b58d77b27db6967957b2ff54d0b6b68641442909"), looks := false }, kinds := [], alts := [], laidByText := true, laidKinds := [.data, .data], laidTests := true, laidLooks := .later }
def TrayChainedCardSaid : Prop := Claim7.holds Tryd.pinned (.plain (OpenSpec.ofChange trayChainedSpec)) trayChainedCard

/-- THE TIED CARD OF 'aigrettelaw08.TrayKatona'. -/
def trayKatonaCard : Claim7 := { stood := { row := trayKatonaRow, standIns := [], harness := (true, "8d620e58018597c568bdf6b1b58d77b27db6967957b2ff54d0b6b68641442909"), looks := false }, kinds := [], alts := [], laidByText := true, laidKinds := [.data, .data], laidTests := true, laidLooks := .later }
def TrayKatonaCardSaid : Prop := Claim7.holds Tryd.pinned (.plain (OpenSpec.ofChange trayKatonaSpec)) trayKatonaCard

/-- THE TIED CARD OF 'aigrettelaw08.TrayBefore'. -/
def trayBeforeCard : Claim7 := { stood := { row := trayBeforeRow, standIns := [], harness := (true, "8d620e58018597c568bdf6b1b58d77b27db6967957b2ff54d0b6b68641442909"), looks := false }, kinds := [], alts := [], laidByText := true, laidKinds := [.data, .data], laidTests := true, laidLooks := .later }
def TrayBeforeCardSaid : Prop := Claim7.holds Tryd.pinned (.plain (OpenSpec.ofChange trayBeforeSpec)) trayBeforeCard

/-- THE TIED CARD OF 'aigrettelaw08.TrayKnown'. -/
def trayKnownCard : Claim7 := { stood := { row := trayKnownRow, standIns := [], harness := (true, "8d620e58018597c568bdf6b1b58d77b27db6967957b2ff54d0b6b68641442909"), looks := false }, kinds := [], alts := [], laidByText := true, laidKinds := [.data, .data], laidTests := true, laidLooks := .later }
def TrayKnownCardSaid : Prop := Claim7.holds Tryd.pinned (.plain (OpenSpec.ofChange trayKnownSpec)) trayKnownCard

/-- THE SECOND FORM's CARD OF 'aigrettelaw08.TrayChained'. -/
def trayChainedUptoCard : Claim7 := { stood := { row := trayChainedUptoRow, standIns := [], harness := (true, "8d620e58018597c568bdf6b1b58d77b27db6967957b2ff54d0b6b68641442909"), looks := false }, kinds := [], alts := [], laidByText := true, laidKinds := [.data, .data], laidTests := true, laidLooks := .later }
def TrayChainedUptoCardSaid : Prop := Claim7.holds Tryd.pinned (.plain (OpenSpec.upto trayChainedSpec)) trayChainedUptoCard

/-- THE SECOND FORM's CARD OF 'aigrettelaw08.TrayKatona'. -/
def trayKatonaUptoCard : Claim7 := { stood := { row := trayKatonaUptoRow, standIns := [], harness := (true, "8d620e58018597c568bdf6b1b58d77b27db6967957b2ff54d0b6b68641442909"), looks := false }, kinds := [], alts := [], laidByText := true, laidKinds := [.data, .data], laidTests := true, laidLooks := .later }
def TrayKatonaUptoCardSaid : Prop := Claim7.holds Tryd.pinned (.plain (OpenSpec.upto trayKatonaSpec)) trayKatonaUptoCard

/-- THE SECOND FORM's CARD OF 'aigrettelaw08.TrayBefore'. -/
def trayBeforeUptoCard : Claim7 := { stood := { row := trayBeforeUptoRow, standIns := [], harness := (true, "8d620e58018597c568bdf6b1b58d77b27db6967957b2ff54d0b6b68641442909"), looks := false }, kinds := [], alts := [], laidByText := true, laidKinds := [.data, .data], laidTests := true, laidLooks := .later }
def TrayBeforeUptoCardSaid : Prop := Claim7.holds Tryd.pinned (.plain (OpenSpec.upto trayBeforeSpec)) trayBeforeUptoCard

/-- THE SECOND FORM's CARD OF 'aigrettelaw08.TrayKnown'. -/
def trayKnownUptoCard : Claim7 := { stood := { row := trayKnownUptoRow, standIns := [], harness := (true, "8d620e58018597c568bdf6b1b58d77b27db6967957b2ff54d0b6b68641442909"), looks := false }, kinds := [], alts := [], laidByText := true, laidKinds := [.data, .data], laidTests := true, laidLooks := .later }
def TrayKnownUptoCardSaid : Prop := Claim7.holds Tryd.pinned (.plain (OpenSpec.upto trayKnownSpec)) trayKnownUptoCard
end Rows
end Go.Proofs.YtnpimbpbhbfchaaDoor
