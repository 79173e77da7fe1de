/-
  DERIVED. GIVEN WITH THE SEED: THE CARDS: each row of YtmbngjlhaelhcaaDoorRows.lean that lists a variable, with what it lists TIED to the program's text (the seventh form; the later family's looks); each row that meets fmt, with fmt's text TOLD by the authors' own Lean function (tested against real Go, not proved from fmt's source: count such statements apart). THE CARD IS WHAT COUNTS. Prove the row's statement (the work); the ties are given (YtmbngjlhaelhcaaDoorTie.lean); close each card by the builder's one call (the guide's Derived/Test/ToyasCard.lean, 'card_holds'). Laid BY PROGRAM, IN A SANDBOX (cutbox-door.mjs). By AI agents, Wed Nov 11 2026. No macro, syntax, notation, axiom, sorry.
-/
import Derived.Test.YtmbngjlhaelhcaaDoorRows
import GoSem.ClaimSeven
namespace Go.Proofs.YtmbngjlhaelhcaaDoor
namespace Rows

/-- THE TIED CARD OF 'aigrettelaw06.SaleDivisions'. -/
def saleDivisionsCard : Claim7 := { stood := { row := saleDivisionsRow, standIns := [], harness := (true, "4062ad47315bd84256abcc9b1abe1eaf0c72d71e3786e4ff26e3b0927fa1baf9"), looks := false }, kinds := [], alts := [], laidByText := true, laidKinds := [.data, .data], laidTests := true, laidLooks := .later }
def SaleDivisionsCardSaid : Prop := Claim7.holds Tryd.pinned (.plain (OpenSpec.ofChange saleDivisionsSpec)) saleDivisionsCard

/-- THE TIED CARD OF 'aigrettelaw06.SalePays'. -/
def salePaysCard : Claim7 := { stood := { row := salePaysRow, standIns := [], harness := (true, "4062ad47315bd84256abcc9b1abe1eaf0c72d71e3786e4ff26e3b0927fa1baf9"), looks := false }, kinds := [], alts := [], laidByText := true, laidKinds := [.data, .data], laidTests := true, laidLooks := .later }
def SalePaysCardSaid : Prop := Claim7.holds Tryd.pinned (.plain (OpenSpec.ofChange salePaysSpec)) salePaysCard

/-- THE TIED CARD OF 'aigrettelaw06.SaleWanted'. -/
def saleWantedCard : Claim7 := { stood := { row := saleWantedRow, standIns := [], harness := (true, "4062ad47315bd84256abcc9b1abe1eaf0c72d71e3786e4ff26e3b0927fa1baf9"), looks := false }, kinds := [], alts := [], laidByText := true, laidKinds := [.data, .data], laidTests := true, laidLooks := .later }
def SaleWantedCardSaid : Prop := Claim7.holds Tryd.pinned (.plain (OpenSpec.ofChange saleWantedSpec)) saleWantedCard

/-- THE TIED CARD OF 'aigrettelaw06.SaleLowest'. -/
def saleLowestCard : Claim7 := { stood := { row := saleLowestRow, standIns := [], harness := (true, "4062ad47315bd84256abcc9b1abe1eaf0c72d71e3786e4ff26e3b0927fa1baf9"), looks := false }, kinds := [], alts := [], laidByText := true, laidKinds := [.data, .data], laidTests := true, laidLooks := .later }
def SaleLowestCardSaid : Prop := Claim7.holds Tryd.pinned (.plain (OpenSpec.ofChange saleLowestSpec)) saleLowestCard

/-- THE TIED CARD OF 'aigrettelaw06.SaleTruth'. -/
def saleTruthCard : Claim7 := { stood := { row := saleTruthRow, standIns := [], harness := (true, "4062ad47315bd84256abcc9b1abe1eaf0c72d71e3786e4ff26e3b0927fa1baf9"), looks := false }, kinds := [], alts := [], laidByText := true, laidKinds := [.data, .data], laidTests := true, laidLooks := .later }
def SaleTruthCardSaid : Prop := Claim7.holds Tryd.pinned (.plain (OpenSpec.ofChange saleTruthSpec)) saleTruthCard

/-- THE TIED CARD OF 'aigrettelaw06.SaleDivided'. -/
def saleDividedCard : Claim7 := { stood := { row := saleDividedRow, standIns := [], harness := (true, "4062ad47315bd84256abcc9b1abe1eaf0c72d71e3786e4ff26e3b0927fa1baf9"), looks := false }, kinds := [], alts := [], laidByText := true, laidKinds := [.data, .data], laidTests := true, laidLooks := .later }
def SaleDividedCardSaid : Prop := Claim7.holds Tryd.pinned (.plain (OpenSpec.ofChange saleDividedSpec)) saleDividedCard

/-- THE TIED CARD OF 'aigrettelaw06.SalePrices'. -/
def salePricesCard : Claim7 := { stood := { row := salePricesRow, standIns := [], harness := (true, "4062ad47315bd84256abcc9b1abe1eaf0c72d71e3786e4ff26e3b0927fa1baf9"), looks := false }, kinds := [], alts := [], laidByText := true, laidKinds := [.data, .data], laidTests := true, laidLooks := .later }
def SalePricesCardSaid : Prop := Claim7.holds Tryd.pinned (.plain (OpenSpec.ofChange salePricesSpec)) salePricesCard

/-- THE TIED CARD OF 'aigrettelaw06.SaleLeonard'. -/
def saleLeonardCard : Claim7 := { stood := { row := saleLeonardRow, standIns := [], harness := (true, "4062ad47315bd84256abcc9b1abe1eaf0c72d71e3786e4ff26e3b0927fa1baf9"), looks := false }, kinds := [], alts := [], laidByText := true, laidKinds := [.data, .data], laidTests := true, laidLooks := .later }
def SaleLeonardCardSaid : Prop := Claim7.holds Tryd.pinned (.plain (OpenSpec.ofChange saleLeonardSpec)) saleLeonardCard

/-- THE TIED CARD OF 'aigrettelaw06.SaleHall'. -/
def saleHallCard : Claim7 := { stood := { row := saleHallRow, standIns := [], harness := (true, "4062ad47315bd84256abcc9b1abe1eaf0c72d71e3786e4ff26e3b0927fa1baf9"), looks := false }, kinds := [], alts := [], laidByText := true, laidKinds := [.data, .data], laidTests := true, laidLooks := .later }
def SaleHallCardSaid : Prop := Claim7.holds Tryd.pinned (.plain (OpenSpec.ofChange saleHallSpec)) saleHallCard

/-- THE TIED CARD OF 'aigrettelaw06.SaleNamed'. -/
def saleNamedCard : Claim7 := { stood := { row := saleNamedRow, standIns := [], harness := (true, "4062ad47315bd84256abcc9b1abe1eaf0c72d71e3786e4ff26e3b0927fa1baf9"), looks := false }, kinds := [], alts := [], laidByText := true, laidKinds := [.data, .data], laidTests := true, laidLooks := .later }
def SaleNamedCardSaid : Prop := Claim7.holds Tryd.pinned (.plain (OpenSpec.ofChange saleNamedSpec)) saleNamedCard

/-- THE TIED CARD OF 'aigrettelaw06.SaleMore'. -/
def saleMoreCard : Claim7 := { stood := { row := saleMoreRow, standIns := [], harness := (true, "4062ad47315bd84256abcc9b1abe1eaf0c72d71e3786e4ff26e3b0927fa1baf9"), looks := false }, kinds := [], alts := [], laidByText := true, laidKinds := [.data, .data], laidTests := true, laidLooks := .later }
def SaleMoreCardSaid : Prop := Claim7.holds Tryd.pinned (.plain (OpenSpec.ofChange saleMoreSpec)) saleMoreCard

/-- THE TIED CARD OF 'aigrettelaw06.SaleKnown'. -/
def saleKnownCard : Claim7 := { stood := { row := saleKnownRow, standIns := [], harness := (true, "4062ad47315bd84256abcc9b1abe1eaf0c72d71e3786e4ff26e3b0927fa1baf9"), looks := false }, kinds := [], alts := [], laidByText := true, laidKinds := [.data, .data], laidTests := true, laidLooks := .later }
def SaleKnownCardSaid : Prop := Claim7.holds Tryd.pinned (.plain (OpenSpec.ofChange saleKnownSpec)) saleKnownCard

/-- THE SECOND FORM's CARD OF 'aigrettelaw06.SaleDivisions'. -/
def saleDivisionsUptoCard : Claim7 := { stood := { row := saleDivisionsUptoRow, standIns := [], harness := (true, "4062ad47315bd84256abcc9b1abe1eaf0c72d71e3786e4ff26e3b0927fa1baf9"), looks := false }, kinds := [], alts := [], laidByText := true, laidKinds := [.data, .data], laidTests := true, laidLooks := .later }
def SaleDivisionsUptoCardSaid : Prop := Claim7.holds Tryd.pinned (.plain (OpenSpec.upto saleDivisionsSpec)) saleDivisionsUptoCard

/-- THE SECOND FORM's CARD OF 'aigrettelaw06.SalePays'. -/
def salePaysUptoCard : Claim7 := { stood := { row := salePaysUptoRow, standIns := [], harness := (true, "4062ad47315bd84256abcc9b1abe1eaf0c72d71e3786e4ff26e3b0927fa1baf9"), looks := false }, kinds := [], alts := [], laidByText := true, laidKinds := [.data, .data], laidTests := true, laidLooks := .later }
def SalePaysUptoCardSaid : Prop := Claim7.holds Tryd.pinned (.plain (OpenSpec.upto salePaysSpec)) salePaysUptoCard

/-- THE SECOND FORM's CARD OF 'aigrettelaw06.SaleWanted'. -/
def saleWantedUptoCard : Claim7 := { stood := { row := saleWantedUptoRow, standIns := [], harness := (true, "4062ad47315bd84256abcc9b1abe1eaf0c72d71e3786e4ff26e3b0927fa1baf9"), looks := false }, kinds := [], alts := [], laidByText := true, laidKinds := [.data, .data], laidTests := true, laidLooks := .later }
def SaleWantedUptoCardSaid : Prop := Claim7.holds Tryd.pinned (.plain (OpenSpec.upto saleWantedSpec)) saleWantedUptoCard

/-- THE SECOND FORM's CARD OF 'aigrettelaw06.SaleLowest'. -/
def saleLowestUptoCard : Claim7 := { stood := { row := saleLowestUptoRow, standIns := [], harness := (true, "4062ad47315bd84256abcc9b1abe1eaf0c72d71e3786e4ff26e3b0927fa1baf9"), looks := false }, kinds := [], alts := [], laidByText := true, laidKinds := [.data, .data], laidTests := true, laidLooks := .later }
def SaleLowestUptoCardSaid : Prop := Claim7.holds Tryd.pinned (.plain (OpenSpec.upto saleLowestSpec)) saleLowestUptoCard

/-- THE SECOND FORM's CARD OF 'aigrettelaw06.SaleTruth'. -/
def saleTruthUptoCard : Claim7 := { stood := { row := saleTruthUptoRow, standIns := [], harness := (true, "4062ad47315bd84256abcc9b1abe1eaf0c72d71e3786e4ff26e3b0927fa1baf9"), looks := false }, kinds := [], alts := [], laidByText := true, laidKinds := [.data, .data], laidTests := true, laidLooks := .later }
def SaleTruthUptoCardSaid : Prop := Claim7.holds Tryd.pinned (.plain (OpenSpec.upto saleTruthSpec)) saleTruthUptoCard

/-- THE SECOND FORM's CARD OF 'aigrettelaw06.SaleDivided'. -/
def saleDividedUptoCard : Claim7 := { stood := { row := saleDividedUptoRow, standIns := [], harness := (true, "4062ad47315bd84256abcc9b1abe1eaf0c72d71e3786e4ff26e3b0927fa1baf9"), looks := false }, kinds := [], alts := [], laidByText := true, laidKinds := [.data, .data], laidTests := true, laidLooks := .later }
def SaleDividedUptoCardSaid : Prop := Claim7.holds Tryd.pinned (.plain (OpenSpec.upto saleDividedSpec)) saleDividedUptoCard

/-- THE SECOND FORM's CARD OF 'aigrettelaw06.SalePrices'. -/
def salePricesUptoCard : Claim7 := { stood := { row := salePricesUptoRow, standIns := [], harness := (true, "4062ad47315bd84256abcc9b1abe1eaf0c72d71e3786e4ff26e3b0927fa1baf9"), looks := false }, kinds := [], alts := [], laidByText := true, laidKinds := [.data, .data], laidTests := true, laidLooks := .later }
def SalePricesUptoCardSaid : Prop := Claim7.holds Tryd.pinned (.plain (OpenSpec.upto salePricesSpec)) salePricesUptoCard

/-- THE SECOND FORM's CARD OF 'aigrettelaw06.SaleLeonard'. -/
def saleLeonardUptoCard : Claim7 := { stood := { row := saleLeonardUptoRow, standIns := [], harness := (true, "4062ad47315bd84256abcc9b1abe1eaf0c72d71e3786e4ff26e3b0927fa1baf9"), looks := false }, kinds := [], alts := [], laidByText := true, laidKinds := [.data, .data], laidTests := true, laidLooks := .later }
def SaleLeonardUptoCardSaid : Prop := Claim7.holds Tryd.pinned (.plain (OpenSpec.upto saleLeonardSpec)) saleLeonardUptoCard

/-- THE SECOND FORM's CARD OF 'aigrettelaw06.SaleHall'. -/
def saleHallUptoCard : Claim7 := { stood := { row := saleHallUptoRow, standIns := [], harness := (true, "4062ad47315bd84256abcc9b1abe1eaf0c72d71e3786e4ff26e3b0927fa1baf9"), looks := false }, kinds := [], alts := [], laidByText := true, laidKinds := [.data, .data], laidTests := true, laidLooks := .later }
def SaleHallUptoCardSaid : Prop := Claim7.holds Tryd.pinned (.plain (OpenSpec.upto saleHallSpec)) saleHallUptoCard

/-- THE SECOND FORM's CARD OF 'aigrettelaw06.SaleNamed'. -/
def saleNamedUptoCard : Claim7 := { stood := { row := saleNamedUptoRow, standIns := [], harness := (true, "4062ad47315bd84256abcc9b1abe1eaf0c72d71e3786e4ff26e3b0927fa1baf9"), looks := false }, kinds := [], alts := [], laidByText := true, laidKinds := [.data, .data], laidTests := true, laidLooks := .later }
def SaleNamedUptoCardSaid : Prop := Claim7.holds Tryd.pinned (.plain (OpenSpec.upto saleNamedSpec)) saleNamedUptoCard

/-- THE SECOND FORM's CARD OF 'aigrettelaw06.SaleMore'. -/
def saleMoreUptoCard : Claim7 := { stood := { row := saleMoreUptoRow, standIns := [], harness := (true, "4062ad47315bd84256abcc9b1abe1eaf0c72d71e3786e4ff26e3b0927fa1baf9"), looks := false }, kinds := [], alts := [], laidByText := true, laidKinds := [.data, .data], laidTests := true, laidLooks := .later }
def SaleMoreUptoCardSaid : Prop := Claim7.holds Tryd.pinned (.plain (OpenSpec.upto saleMoreSpec)) saleMoreUptoCard

/-- THE SECOND FORM's CARD OF 'aigrettelaw06.SaleKnown'. -/
def saleKnownUptoCard : Claim7 := { stood := { row := saleKnownUptoRow, standIns := [], harness := (true, "4062ad47315bd84256abcc9b1abe1eaf0c72d71e3786e4ff26e3b0927fa1baf9"), looks := false }, kinds := [], alts := [], laidByText := true, laidKinds := [.data, .data], laidTests := true, laidLooks := .later }
def SaleKnownUptoCardSaid : Prop := Claim7.holds Tryd.pinned (.plain (OpenSpec.upto saleKnownSpec)) saleKnownUptoCard
end Rows
end Go.Proofs.YtmbngjlhaelhcaaDoor
