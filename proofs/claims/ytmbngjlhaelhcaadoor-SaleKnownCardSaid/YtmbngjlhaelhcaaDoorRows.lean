/-
  NARROWER THAN 'FOR EVERY INPUT', by the rows' own cells (each row's printed sentence says how): SaleDivisions: laid · SalePays: laid · SaleWanted: laid · SaleLowest: laid · SaleTruth: laid · SaleDivided: laid · SalePrices: laid · SaleLeonard: laid · SaleHall: laid · SaleNamed: laid · SaleMore: laid · SaleKnown: laid.
  DERIVED. THE GIVEN ROWS OF THIS SEAT. 12 by the template 'for every input the law returns true; each argument reads behind the call as it read before'; 0 by the template 'total and deterministic' (their statements: YtmbngjlhaelhcaaDoorTotals.lean).
  GIVEN WITH THE SEED: the statements are not yours to turn. If you find one false, say at which input.
  Laid BY PROGRAM, IN A SANDBOX (cutbox-rows.mjs): the forced cells as the released guide's own fill.sh prints them over the translation 8b56db19abab7313… (all of the seat's roots in one cut). By AI agents, Wed Nov 11 2026. No macro, syntax, notation, axiom, sorry.
-/
import Derived.Test.YtmbngjlhaelhcaaDoorChecked
import GoSem.Claim
import GoSem.ClaimJoined
import GoSem.ClaimMapViews
import Derived.JoinedTies
import Derived.KernelRfl
namespace Go.Proofs.YtmbngjlhaelhcaaDoor
/- THE CELL 'sum', in the pinned program and in every row, IS THE sha256 OF THE DUMP (.gsa) THAT YtmbngjlhaelhcaaDoorProg.lean LOADS. Nothing in Lean hashes anything: it is a label: what it is worth is what the hold of that sum in a sandbox is worth. -/
noncomputable def Tryd.pinned : Pinned := { name := "ytmbngjlhaelhcaadoor", sum := "8b56db19abab731337b6f7bdf4f13546f94ee09a5d3a666ee2199bfec62d606b", checked := Tryd.checked }
namespace Rows
def none {H : Type} : Left H := { results := [], args := [] }

/- WHAT THE LISTED PACKAGE-LEVEL VARIABLES READ AS WHEN THE CALL BEGINS. Each datum BY PROGRAM (the guide's laid-datum.mjs) off the statement by which the dump's own 'gosem.cut.vars' lays the variable. In a bare row this is a premise. The card (YtmbngjlhaelhcaaDoorCards.lean) ties it to the program's text. -/
def laid_math_bits_deBruijn32tab {H : Type} : DataW H := .agg [.lit (.int .u8 0), .lit (.int .u8 1), .lit (.int .u8 28), .lit (.int .u8 2), .lit (.int .u8 29), .lit (.int .u8 14), .lit (.int .u8 24), .lit (.int .u8 3), .lit (.int .u8 30), .lit (.int .u8 22), .lit (.int .u8 20), .lit (.int .u8 15), .lit (.int .u8 25), .lit (.int .u8 17), .lit (.int .u8 4), .lit (.int .u8 8), .lit (.int .u8 31), .lit (.int .u8 27), .lit (.int .u8 13), .lit (.int .u8 23), .lit (.int .u8 21), .lit (.int .u8 19), .lit (.int .u8 16), .lit (.int .u8 7), .lit (.int .u8 26), .lit (.int .u8 12), .lit (.int .u8 18), .lit (.int .u8 6), .lit (.int .u8 11), .lit (.int .u8 5), .lit (.int .u8 10), .lit (.int .u8 9)]
def laid_math_bits_deBruijn64tab {H : Type} : DataW H := .agg [.lit (.int .u8 0), .lit (.int .u8 1), .lit (.int .u8 56), .lit (.int .u8 2), .lit (.int .u8 57), .lit (.int .u8 49), .lit (.int .u8 28), .lit (.int .u8 3), .lit (.int .u8 61), .lit (.int .u8 58), .lit (.int .u8 42), .lit (.int .u8 50), .lit (.int .u8 38), .lit (.int .u8 29), .lit (.int .u8 17), .lit (.int .u8 4), .lit (.int .u8 62), .lit (.int .u8 47), .lit (.int .u8 59), .lit (.int .u8 36), .lit (.int .u8 45), .lit (.int .u8 43), .lit (.int .u8 51), .lit (.int .u8 22), .lit (.int .u8 53), .lit (.int .u8 39), .lit (.int .u8 33), .lit (.int .u8 30), .lit (.int .u8 24), .lit (.int .u8 18), .lit (.int .u8 12), .lit (.int .u8 5), .lit (.int .u8 63), .lit (.int .u8 55), .lit (.int .u8 48), .lit (.int .u8 27), .lit (.int .u8 60), .lit (.int .u8 41), .lit (.int .u8 37), .lit (.int .u8 16), .lit (.int .u8 46), .lit (.int .u8 35), .lit (.int .u8 44), .lit (.int .u8 21), .lit (.int .u8 52), .lit (.int .u8 32), .lit (.int .u8 23), .lit (.int .u8 11), .lit (.int .u8 54), .lit (.int .u8 26), .lit (.int .u8 40), .lit (.int .u8 15), .lit (.int .u8 34), .lit (.int .u8 20), .lit (.int .u8 31), .lit (.int .u8 10), .lit (.int .u8 25), .lit (.int .u8 14), .lit (.int .u8 19), .lit (.int .u8 9), .lit (.int .u8 13), .lit (.int .u8 8), .lit (.int .u8 7), .lit (.int .u8 6)]

/-- 'aigrettelaw06.SaleDivisions': WHATEVER THE INPUT: true; the input reads as it did. -/
def saleDivisionsSpec : ChangeSpec := { name := "saleDivisions", fn := fun _ => fun
  | [d1, d2] => { results := [.lit (.bool true)], args := [d1, d2] }
  | _ => none }
def saleDivisionsRow : OpenClaim := { program := "ytmbngjlhaelhcaadoor", sum := "8b56db19abab731337b6f7bdf4f13546f94ee09a5d3a666ee2199bfec62d606b", func := "aigrette/aigrettelaw06.SaleDivisions", spec := "saleDivisions", unfollowed := true, recurses := true, named := ["math/bits.deBruijn32tab", "math/bits.deBruijn64tab"], plainKeys := false, apart := false, laid := [("math/bits.deBruijn32tab", laid_math_bits_deBruijn32tab), ("math/bits.deBruijn64tab", laid_math_bits_deBruijn64tab)] }
def SaleDivisionsSaid : Prop := saleDivisionsRow.holds Tryd.pinned (OpenSpec.ofChange saleDivisionsSpec)

/-- ITS FALSE NEIGHBOUR: 'it returns false'. Refute it at one input. -/
def saleDivisionsWrong : ChangeSpec := { name := "saleDivisions", fn := fun _ => fun
  | [d1, d2] => { results := [.lit (.bool false)], args := [d1, d2] }
  | _ => none }
def SaleDivisionsWrongFalsely : Prop := saleDivisionsRow.holds Tryd.pinned (OpenSpec.ofChange saleDivisionsWrong)

/-- 'aigrettelaw06.SalePays': WHATEVER THE INPUT: true; the input reads as it did. -/
def salePaysSpec : ChangeSpec := { name := "salePays", fn := fun _ => fun
  | [d1, d2, d3] => { results := [.lit (.bool true)], args := [d1, d2, d3] }
  | _ => none }
def salePaysRow : OpenClaim := { program := "ytmbngjlhaelhcaadoor", sum := "8b56db19abab731337b6f7bdf4f13546f94ee09a5d3a666ee2199bfec62d606b", func := "aigrette/aigrettelaw06.SalePays", spec := "salePays", unfollowed := true, recurses := true, named := ["math/bits.deBruijn32tab", "math/bits.deBruijn64tab"], plainKeys := false, apart := false, laid := [("math/bits.deBruijn32tab", laid_math_bits_deBruijn32tab), ("math/bits.deBruijn64tab", laid_math_bits_deBruijn64tab)] }
def SalePaysSaid : Prop := salePaysRow.holds Tryd.pinned (OpenSpec.ofChange salePaysSpec)

/-- ITS FALSE NEIGHBOUR: 'it returns false'. Refute it at one input. -/
def salePaysWrong : ChangeSpec := { name := "salePays", fn := fun _ => fun
  | [d1, d2, d3] => { results := [.lit (.bool false)], args := [d1, d2, d3] }
  | _ => none }
def SalePaysWrongFalsely : Prop := salePaysRow.holds Tryd.pinned (OpenSpec.ofChange salePaysWrong)

/-- 'aigrettelaw06.SaleWanted': WHATEVER THE INPUT: true; the input reads as it did. -/
def saleWantedSpec : ChangeSpec := { name := "saleWanted", fn := fun _ => fun
  | [d1, d2, d3] => { results := [.lit (.bool true)], args := [d1, d2, d3] }
  | _ => none }
def saleWantedRow : OpenClaim := { program := "ytmbngjlhaelhcaadoor", sum := "8b56db19abab731337b6f7bdf4f13546f94ee09a5d3a666ee2199bfec62d606b", func := "aigrette/aigrettelaw06.SaleWanted", spec := "saleWanted", unfollowed := true, recurses := true, named := ["math/bits.deBruijn32tab", "math/bits.deBruijn64tab"], plainKeys := false, apart := false, laid := [("math/bits.deBruijn32tab", laid_math_bits_deBruijn32tab), ("math/bits.deBruijn64tab", laid_math_bits_deBruijn64tab)] }
def SaleWantedSaid : Prop := saleWantedRow.holds Tryd.pinned (OpenSpec.ofChange saleWantedSpec)

/-- ITS FALSE NEIGHBOUR: 'it returns false'. Refute it at one input. -/
def saleWantedWrong : ChangeSpec := { name := "saleWanted", fn := fun _ => fun
  | [d1, d2, d3] => { results := [.lit (.bool false)], args := [d1, d2, d3] }
  | _ => none }
def SaleWantedWrongFalsely : Prop := saleWantedRow.holds Tryd.pinned (OpenSpec.ofChange saleWantedWrong)

/-- 'aigrettelaw06.SaleLowest': WHATEVER THE INPUT: true; the input reads as it did. -/
def saleLowestSpec : ChangeSpec := { name := "saleLowest", fn := fun _ => fun
  | [d] => { results := [.lit (.bool true)], args := [d] }
  | _ => none }
def saleLowestRow : OpenClaim := { program := "ytmbngjlhaelhcaadoor", sum := "8b56db19abab731337b6f7bdf4f13546f94ee09a5d3a666ee2199bfec62d606b", func := "aigrette/aigrettelaw06.SaleLowest", spec := "saleLowest", unfollowed := true, recurses := true, named := ["math/bits.deBruijn32tab", "math/bits.deBruijn64tab"], plainKeys := false, apart := false, laid := [("math/bits.deBruijn32tab", laid_math_bits_deBruijn32tab), ("math/bits.deBruijn64tab", laid_math_bits_deBruijn64tab)] }
def SaleLowestSaid : Prop := saleLowestRow.holds Tryd.pinned (OpenSpec.ofChange saleLowestSpec)

/-- ITS FALSE NEIGHBOUR: 'it returns false'. Refute it at one input. -/
def saleLowestWrong : ChangeSpec := { name := "saleLowest", fn := fun _ => fun
  | [d] => { results := [.lit (.bool false)], args := [d] }
  | _ => none }
def SaleLowestWrongFalsely : Prop := saleLowestRow.holds Tryd.pinned (OpenSpec.ofChange saleLowestWrong)

/-- 'aigrettelaw06.SaleTruth': WHATEVER THE INPUT: true; the input reads as it did. -/
def saleTruthSpec : ChangeSpec := { name := "saleTruth", fn := fun _ => fun
  | [d1, d2] => { results := [.lit (.bool true)], args := [d1, d2] }
  | _ => none }
def saleTruthRow : OpenClaim := { program := "ytmbngjlhaelhcaadoor", sum := "8b56db19abab731337b6f7bdf4f13546f94ee09a5d3a666ee2199bfec62d606b", func := "aigrette/aigrettelaw06.SaleTruth", spec := "saleTruth", unfollowed := true, recurses := true, named := ["math/bits.deBruijn32tab", "math/bits.deBruijn64tab"], plainKeys := false, apart := false, laid := [("math/bits.deBruijn32tab", laid_math_bits_deBruijn32tab), ("math/bits.deBruijn64tab", laid_math_bits_deBruijn64tab)] }
def SaleTruthSaid : Prop := saleTruthRow.holds Tryd.pinned (OpenSpec.ofChange saleTruthSpec)

/-- ITS FALSE NEIGHBOUR: 'it returns false'. Refute it at one input. -/
def saleTruthWrong : ChangeSpec := { name := "saleTruth", fn := fun _ => fun
  | [d1, d2] => { results := [.lit (.bool false)], args := [d1, d2] }
  | _ => none }
def SaleTruthWrongFalsely : Prop := saleTruthRow.holds Tryd.pinned (OpenSpec.ofChange saleTruthWrong)

/-- 'aigrettelaw06.SaleDivided': WHATEVER THE INPUT: true; the input reads as it did. -/
def saleDividedSpec : ChangeSpec := { name := "saleDivided", fn := fun _ => fun
  | [d1, d2] => { results := [.lit (.bool true)], args := [d1, d2] }
  | _ => none }
def saleDividedRow : OpenClaim := { program := "ytmbngjlhaelhcaadoor", sum := "8b56db19abab731337b6f7bdf4f13546f94ee09a5d3a666ee2199bfec62d606b", func := "aigrette/aigrettelaw06.SaleDivided", spec := "saleDivided", unfollowed := true, recurses := true, named := ["math/bits.deBruijn32tab", "math/bits.deBruijn64tab"], plainKeys := false, apart := false, laid := [("math/bits.deBruijn32tab", laid_math_bits_deBruijn32tab), ("math/bits.deBruijn64tab", laid_math_bits_deBruijn64tab)] }
def SaleDividedSaid : Prop := saleDividedRow.holds Tryd.pinned (OpenSpec.ofChange saleDividedSpec)

/-- ITS FALSE NEIGHBOUR: 'it returns false'. Refute it at one input. -/
def saleDividedWrong : ChangeSpec := { name := "saleDivided", fn := fun _ => fun
  | [d1, d2] => { results := [.lit (.bool false)], args := [d1, d2] }
  | _ => none }
def SaleDividedWrongFalsely : Prop := saleDividedRow.holds Tryd.pinned (OpenSpec.ofChange saleDividedWrong)

/-- 'aigrettelaw06.SalePrices': WHATEVER THE INPUT: true; the input reads as it did. -/
def salePricesSpec : ChangeSpec := { name := "salePrices", fn := fun _ => fun
  | [d] => { results := [.lit (.bool true)], args := [d] }
  | _ => none }
def salePricesRow : OpenClaim := { program := "ytmbngjlhaelhcaadoor", sum := "8b56db19abab731337b6f7bdf4f13546f94ee09a5d3a666ee2199bfec62d606b", func := "aigrette/aigrettelaw06.SalePrices", spec := "salePrices", unfollowed := true, recurses := true, named := ["math/bits.deBruijn32tab", "math/bits.deBruijn64tab"], plainKeys := false, apart := false, laid := [("math/bits.deBruijn32tab", laid_math_bits_deBruijn32tab), ("math/bits.deBruijn64tab", laid_math_bits_deBruijn64tab)] }
def SalePricesSaid : Prop := salePricesRow.holds Tryd.pinned (OpenSpec.ofChange salePricesSpec)

/-- ITS FALSE NEIGHBOUR: 'it returns false'. Refute it at one input. -/
def salePricesWrong : ChangeSpec := { name := "salePrices", fn := fun _ => fun
  | [d] => { results := [.lit (.bool false)], args := [d] }
  | _ => none }
def SalePricesWrongFalsely : Prop := salePricesRow.holds Tryd.pinned (OpenSpec.ofChange salePricesWrong)

/-- 'aigrettelaw06.SaleLeonard': WHATEVER THE INPUT: true; the input reads as it did. -/
def saleLeonardSpec : ChangeSpec := { name := "saleLeonard", fn := fun _ => fun
  | [d] => { results := [.lit (.bool true)], args := [d] }
  | _ => none }
def saleLeonardRow : OpenClaim := { program := "ytmbngjlhaelhcaadoor", sum := "8b56db19abab731337b6f7bdf4f13546f94ee09a5d3a666ee2199bfec62d606b", func := "aigrette/aigrettelaw06.SaleLeonard", spec := "saleLeonard", unfollowed := true, recurses := true, named := ["math/bits.deBruijn32tab", "math/bits.deBruijn64tab"], plainKeys := false, apart := false, laid := [("math/bits.deBruijn32tab", laid_math_bits_deBruijn32tab), ("math/bits.deBruijn64tab", laid_math_bits_deBruijn64tab)] }
def SaleLeonardSaid : Prop := saleLeonardRow.holds Tryd.pinned (OpenSpec.ofChange saleLeonardSpec)

/-- ITS FALSE NEIGHBOUR: 'it returns false'. Refute it at one input. -/
def saleLeonardWrong : ChangeSpec := { name := "saleLeonard", fn := fun _ => fun
  | [d] => { results := [.lit (.bool false)], args := [d] }
  | _ => none }
def SaleLeonardWrongFalsely : Prop := saleLeonardRow.holds Tryd.pinned (OpenSpec.ofChange saleLeonardWrong)

/-- 'aigrettelaw06.SaleHall': WHATEVER THE INPUT: true; the input reads as it did. -/
def saleHallSpec : ChangeSpec := { name := "saleHall", fn := fun _ => fun
  | [d1, d2] => { results := [.lit (.bool true)], args := [d1, d2] }
  | _ => none }
def saleHallRow : OpenClaim := { program := "ytmbngjlhaelhcaadoor", sum := "8b56db19abab731337b6f7bdf4f13546f94ee09a5d3a666ee2199bfec62d606b", func := "aigrette/aigrettelaw06.SaleHall", spec := "saleHall", unfollowed := true, recurses := true, named := ["math/bits.deBruijn32tab", "math/bits.deBruijn64tab"], plainKeys := false, apart := false, laid := [("math/bits.deBruijn32tab", laid_math_bits_deBruijn32tab), ("math/bits.deBruijn64tab", laid_math_bits_deBruijn64tab)] }
def SaleHallSaid : Prop := saleHallRow.holds Tryd.pinned (OpenSpec.ofChange saleHallSpec)

/-- ITS FALSE NEIGHBOUR: 'it returns false'. Refute it at one input. -/
def saleHallWrong : ChangeSpec := { name := "saleHall", fn := fun _ => fun
  | [d1, d2] => { results := [.lit (.bool false)], args := [d1, d2] }
  | _ => none }
def SaleHallWrongFalsely : Prop := saleHallRow.holds Tryd.pinned (OpenSpec.ofChange saleHallWrong)

/-- 'aigrettelaw06.SaleNamed': WHATEVER THE INPUT: true; the input reads as it did. -/
def saleNamedSpec : ChangeSpec := { name := "saleNamed", fn := fun _ => fun
  | [d1, d2, d3] => { results := [.lit (.bool true)], args := [d1, d2, d3] }
  | _ => none }
def saleNamedRow : OpenClaim := { program := "ytmbngjlhaelhcaadoor", sum := "8b56db19abab731337b6f7bdf4f13546f94ee09a5d3a666ee2199bfec62d606b", func := "aigrette/aigrettelaw06.SaleNamed", spec := "saleNamed", unfollowed := true, recurses := true, named := ["math/bits.deBruijn32tab", "math/bits.deBruijn64tab"], plainKeys := false, apart := false, laid := [("math/bits.deBruijn32tab", laid_math_bits_deBruijn32tab), ("math/bits.deBruijn64tab", laid_math_bits_deBruijn64tab)] }
def SaleNamedSaid : Prop := saleNamedRow.holds Tryd.pinned (OpenSpec.ofChange saleNamedSpec)

/-- ITS FALSE NEIGHBOUR: 'it returns false'. Refute it at one input. -/
def saleNamedWrong : ChangeSpec := { name := "saleNamed", fn := fun _ => fun
  | [d1, d2, d3] => { results := [.lit (.bool false)], args := [d1, d2, d3] }
  | _ => none }
def SaleNamedWrongFalsely : Prop := saleNamedRow.holds Tryd.pinned (OpenSpec.ofChange saleNamedWrong)

/-- 'aigrettelaw06.SaleMore': WHATEVER THE INPUT: true; the input reads as it did. -/
def saleMoreSpec : ChangeSpec := { name := "saleMore", fn := fun _ => fun
  | [d1, d2] => { results := [.lit (.bool true)], args := [d1, d2] }
  | _ => none }
def saleMoreRow : OpenClaim := { program := "ytmbngjlhaelhcaadoor", sum := "8b56db19abab731337b6f7bdf4f13546f94ee09a5d3a666ee2199bfec62d606b", func := "aigrette/aigrettelaw06.SaleMore", spec := "saleMore", unfollowed := true, recurses := true, named := ["math/bits.deBruijn32tab", "math/bits.deBruijn64tab"], plainKeys := false, apart := false, laid := [("math/bits.deBruijn32tab", laid_math_bits_deBruijn32tab), ("math/bits.deBruijn64tab", laid_math_bits_deBruijn64tab)] }
def SaleMoreSaid : Prop := saleMoreRow.holds Tryd.pinned (OpenSpec.ofChange saleMoreSpec)

/-- ITS FALSE NEIGHBOUR: 'it returns false'. Refute it at one input. -/
def saleMoreWrong : ChangeSpec := { name := "saleMore", fn := fun _ => fun
  | [d1, d2] => { results := [.lit (.bool false)], args := [d1, d2] }
  | _ => none }
def SaleMoreWrongFalsely : Prop := saleMoreRow.holds Tryd.pinned (OpenSpec.ofChange saleMoreWrong)

/-- 'aigrettelaw06.SaleKnown': WHATEVER THE INPUT: true; the input reads as it did. -/
def saleKnownSpec : ChangeSpec := { name := "saleKnown", fn := fun _ => fun
  | [] => { results := [.lit (.bool true)], args := [] }
  | _ => none }
def saleKnownRow : OpenClaim := { program := "ytmbngjlhaelhcaadoor", sum := "8b56db19abab731337b6f7bdf4f13546f94ee09a5d3a666ee2199bfec62d606b", func := "aigrette/aigrettelaw06.SaleKnown", spec := "saleKnown", unfollowed := true, recurses := true, named := ["math/bits.deBruijn32tab", "math/bits.deBruijn64tab"], plainKeys := false, apart := false, laid := [("math/bits.deBruijn32tab", laid_math_bits_deBruijn32tab), ("math/bits.deBruijn64tab", laid_math_bits_deBruijn64tab)] }
def SaleKnownSaid : Prop := saleKnownRow.holds Tryd.pinned (OpenSpec.ofChange saleKnownSpec)

/-- ITS FALSE NEIGHBOUR: 'it returns false'. Refute it at one input. -/
def saleKnownWrong : ChangeSpec := { name := "saleKnown", fn := fun _ => fun
  | [] => { results := [.lit (.bool false)], args := [] }
  | _ => none }
def SaleKnownWrongFalsely : Prop := saleKnownRow.holds Tryd.pinned (OpenSpec.ofChange saleKnownWrong)

/- THE SECOND FORM. 'bulk': how many values and letters a reading holds, each counted each time it is reached (what is shared counts as often as it is met; a slice's spare places count too). A statement '..UptoSaid' is the law's where the arguments, and the package variables that the reading takes, are together of bulk at most 1048576: NARROWER than '..Said'. Prove '..Said' where nothing that the law and all that it calls make is longer than what came in: it says more and counts as full. Else prove '..UptoSaid'. A law counts once. -/
mutual
def uptoBulk {H : Type} : DataW H → Nat
  | .lit (.string bytes) => bytes.length + 1
  | .lit _ => 1
  | .nil => 1
  | .ptr d => uptoBulk d + 1
  | .slice elems spare => uptoBulkAll elems + uptoBulkAll spare + 1
  | .agg parts => uptoBulkAll parts + 1
  | .iface _ d => uptoBulk d + 1
  | .map entries => uptoBulkEntries entries + 1
  | .held _ => 1
def uptoBulkAll {H : Type} : List (DataW H) → Nat
  | [] => 0
  | d :: r => uptoBulk d + uptoBulkAll r
def uptoBulkEntries {H : Type} : List (Lit × DataW H) → Nat
  | [] => 0
  | x :: r => uptoBulkEntry x + uptoBulkEntries r
def uptoBulkEntry {H : Type} : Lit × DataW H → Nat
  | (.string bytes, d) => bytes.length + uptoBulk d + 1
  | (_, d) => uptoBulk d + 1
 end
def uptoSmall : (H : Type) → List (DataW H) → Bool := fun _ ds => decide (uptoBulkAll ds ≤ 1048576)
def OpenSpec.upto (s : _root_.Go.ChangeSpec) : _root_.Go.OpenSpec := { _root_.Go.OpenSpec.ofChange s with cond := some uptoSmall }

/-- 'aigrettelaw06.SaleDivisions', WHERE WHAT IT READS IS OF BULK AT MOST 1048576: true; the input reads as it did. -/
def saleDivisionsUptoRow : OpenClaim := { program := "ytmbngjlhaelhcaadoor", sum := "8b56db19abab731337b6f7bdf4f13546f94ee09a5d3a666ee2199bfec62d606b", func := "aigrette/aigrettelaw06.SaleDivisions", spec := "saleDivisions", unfollowed := true, recurses := true, named := ["math/bits.deBruijn32tab", "math/bits.deBruijn64tab"], plainKeys := false, apart := false, laid := [("math/bits.deBruijn32tab", laid_math_bits_deBruijn32tab), ("math/bits.deBruijn64tab", laid_math_bits_deBruijn64tab)], narrowed := true }
def SaleDivisionsUptoSaid : Prop := saleDivisionsUptoRow.holds Tryd.pinned (OpenSpec.upto saleDivisionsSpec)

/-- 'aigrettelaw06.SalePays', WHERE WHAT IT READS IS OF BULK AT MOST 1048576: true; the input reads as it did. -/
def salePaysUptoRow : OpenClaim := { program := "ytmbngjlhaelhcaadoor", sum := "8b56db19abab731337b6f7bdf4f13546f94ee09a5d3a666ee2199bfec62d606b", func := "aigrette/aigrettelaw06.SalePays", spec := "salePays", unfollowed := true, recurses := true, named := ["math/bits.deBruijn32tab", "math/bits.deBruijn64tab"], plainKeys := false, apart := false, laid := [("math/bits.deBruijn32tab", laid_math_bits_deBruijn32tab), ("math/bits.deBruijn64tab", laid_math_bits_deBruijn64tab)], narrowed := true }
def SalePaysUptoSaid : Prop := salePaysUptoRow.holds Tryd.pinned (OpenSpec.upto salePaysSpec)

/-- 'aigrettelaw06.SaleWanted', WHERE WHAT IT READS IS OF BULK AT MOST 1048576: true; the input reads as it did. -/
def saleWantedUptoRow : OpenClaim := { program := "ytmbngjlhaelhcaadoor", sum := "8b56db19abab731337b6f7bdf4f13546f94ee09a5d3a666ee2199bfec62d606b", func := "aigrette/aigrettelaw06.SaleWanted", spec := "saleWanted", unfollowed := true, recurses := true, named := ["math/bits.deBruijn32tab", "math/bits.deBruijn64tab"], plainKeys := false, apart := false, laid := [("math/bits.deBruijn32tab", laid_math_bits_deBruijn32tab), ("math/bits.deBruijn64tab", laid_math_bits_deBruijn64tab)], narrowed := true }
def SaleWantedUptoSaid : Prop := saleWantedUptoRow.holds Tryd.pinned (OpenSpec.upto saleWantedSpec)

/-- 'aigrettelaw06.SaleLowest', WHERE WHAT IT READS IS OF BULK AT MOST 1048576: true; the input reads as it did. -/
def saleLowestUptoRow : OpenClaim := { program := "ytmbngjlhaelhcaadoor", sum := "8b56db19abab731337b6f7bdf4f13546f94ee09a5d3a666ee2199bfec62d606b", func := "aigrette/aigrettelaw06.SaleLowest", spec := "saleLowest", unfollowed := true, recurses := true, named := ["math/bits.deBruijn32tab", "math/bits.deBruijn64tab"], plainKeys := false, apart := false, laid := [("math/bits.deBruijn32tab", laid_math_bits_deBruijn32tab), ("math/bits.deBruijn64tab", laid_math_bits_deBruijn64tab)], narrowed := true }
def SaleLowestUptoSaid : Prop := saleLowestUptoRow.holds Tryd.pinned (OpenSpec.upto saleLowestSpec)

/-- 'aigrettelaw06.SaleTruth', WHERE WHAT IT READS IS OF BULK AT MOST 1048576: true; the input reads as it did. -/
def saleTruthUptoRow : OpenClaim := { program := "ytmbngjlhaelhcaadoor", sum := "8b56db19abab731337b6f7bdf4f13546f94ee09a5d3a666ee2199bfec62d606b", func := "aigrette/aigrettelaw06.SaleTruth", spec := "saleTruth", unfollowed := true, recurses := true, named := ["math/bits.deBruijn32tab", "math/bits.deBruijn64tab"], plainKeys := false, apart := false, laid := [("math/bits.deBruijn32tab", laid_math_bits_deBruijn32tab), ("math/bits.deBruijn64tab", laid_math_bits_deBruijn64tab)], narrowed := true }
def SaleTruthUptoSaid : Prop := saleTruthUptoRow.holds Tryd.pinned (OpenSpec.upto saleTruthSpec)

/-- 'aigrettelaw06.SaleDivided', WHERE WHAT IT READS IS OF BULK AT MOST 1048576: true; the input reads as it did. -/
def saleDividedUptoRow : OpenClaim := { program := "ytmbngjlhaelhcaadoor", sum := "8b56db19abab731337b6f7bdf4f13546f94ee09a5d3a666ee2199bfec62d606b", func := "aigrette/aigrettelaw06.SaleDivided", spec := "saleDivided", unfollowed := true, recurses := true, named := ["math/bits.deBruijn32tab", "math/bits.deBruijn64tab"], plainKeys := false, apart := false, laid := [("math/bits.deBruijn32tab", laid_math_bits_deBruijn32tab), ("math/bits.deBruijn64tab", laid_math_bits_deBruijn64tab)], narrowed := true }
def SaleDividedUptoSaid : Prop := saleDividedUptoRow.holds Tryd.pinned (OpenSpec.upto saleDividedSpec)

/-- 'aigrettelaw06.SalePrices', WHERE WHAT IT READS IS OF BULK AT MOST 1048576: true; the input reads as it did. -/
def salePricesUptoRow : OpenClaim := { program := "ytmbngjlhaelhcaadoor", sum := "8b56db19abab731337b6f7bdf4f13546f94ee09a5d3a666ee2199bfec62d606b", func := "aigrette/aigrettelaw06.SalePrices", spec := "salePrices", unfollowed := true, recurses := true, named := ["math/bits.deBruijn32tab", "math/bits.deBruijn64tab"], plainKeys := false, apart := false, laid := [("math/bits.deBruijn32tab", laid_math_bits_deBruijn32tab), ("math/bits.deBruijn64tab", laid_math_bits_deBruijn64tab)], narrowed := true }
def SalePricesUptoSaid : Prop := salePricesUptoRow.holds Tryd.pinned (OpenSpec.upto salePricesSpec)

/-- 'aigrettelaw06.SaleLeonard', WHERE WHAT IT READS IS OF BULK AT MOST 1048576: true; the input reads as it did. -/
def saleLeonardUptoRow : OpenClaim := { program := "ytmbngjlhaelhcaadoor", sum := "8b56db19abab731337b6f7bdf4f13546f94ee09a5d3a666ee2199bfec62d606b", func := "aigrette/aigrettelaw06.SaleLeonard", spec := "saleLeonard", unfollowed := true, recurses := true, named := ["math/bits.deBruijn32tab", "math/bits.deBruijn64tab"], plainKeys := false, apart := false, laid := [("math/bits.deBruijn32tab", laid_math_bits_deBruijn32tab), ("math/bits.deBruijn64tab", laid_math_bits_deBruijn64tab)], narrowed := true }
def SaleLeonardUptoSaid : Prop := saleLeonardUptoRow.holds Tryd.pinned (OpenSpec.upto saleLeonardSpec)

/-- 'aigrettelaw06.SaleHall', WHERE WHAT IT READS IS OF BULK AT MOST 1048576: true; the input reads as it did. -/
def saleHallUptoRow : OpenClaim := { program := "ytmbngjlhaelhcaadoor", sum := "8b56db19abab731337b6f7bdf4f13546f94ee09a5d3a666ee2199bfec62d606b", func := "aigrette/aigrettelaw06.SaleHall", spec := "saleHall", unfollowed := true, recurses := true, named := ["math/bits.deBruijn32tab", "math/bits.deBruijn64tab"], plainKeys := false, apart := false, laid := [("math/bits.deBruijn32tab", laid_math_bits_deBruijn32tab), ("math/bits.deBruijn64tab", laid_math_bits_deBruijn64tab)], narrowed := true }
def SaleHallUptoSaid : Prop := saleHallUptoRow.holds Tryd.pinned (OpenSpec.upto saleHallSpec)

/-- 'aigrettelaw06.SaleNamed', WHERE WHAT IT READS IS OF BULK AT MOST 1048576: true; the input reads as it did. -/
def saleNamedUptoRow : OpenClaim := { program := "ytmbngjlhaelhcaadoor", sum := "8b56db19abab731337b6f7bdf4f13546f94ee09a5d3a666ee2199bfec62d606b", func := "aigrette/aigrettelaw06.SaleNamed", spec := "saleNamed", unfollowed := true, recurses := true, named := ["math/bits.deBruijn32tab", "math/bits.deBruijn64tab"], plainKeys := false, apart := false, laid := [("math/bits.deBruijn32tab", laid_math_bits_deBruijn32tab), ("math/bits.deBruijn64tab", laid_math_bits_deBruijn64tab)], narrowed := true }
def SaleNamedUptoSaid : Prop := saleNamedUptoRow.holds Tryd.pinned (OpenSpec.upto saleNamedSpec)

/-- 'aigrettelaw06.SaleMore', WHERE WHAT IT READS IS OF BULK AT MOST 1048576: true; the input reads as it did. -/
def saleMoreUptoRow : OpenClaim := { program := "ytmbngjlhaelhcaadoor", sum := "8b56db19abab731337b6f7bdf4f13546f94ee09a5d3a666ee2199bfec62d606b", func := "aigrette/aigrettelaw06.SaleMore", spec := "saleMore", unfollowed := true, recurses := true, named := ["math/bits.deBruijn32tab", "math/bits.deBruijn64tab"], plainKeys := false, apart := false, laid := [("math/bits.deBruijn32tab", laid_math_bits_deBruijn32tab), ("math/bits.deBruijn64tab", laid_math_bits_deBruijn64tab)], narrowed := true }
def SaleMoreUptoSaid : Prop := saleMoreUptoRow.holds Tryd.pinned (OpenSpec.upto saleMoreSpec)

/-- 'aigrettelaw06.SaleKnown', WHERE WHAT IT READS IS OF BULK AT MOST 1048576: true; the input reads as it did. -/
def saleKnownUptoRow : OpenClaim := { program := "ytmbngjlhaelhcaadoor", sum := "8b56db19abab731337b6f7bdf4f13546f94ee09a5d3a666ee2199bfec62d606b", func := "aigrette/aigrettelaw06.SaleKnown", spec := "saleKnown", unfollowed := true, recurses := true, named := ["math/bits.deBruijn32tab", "math/bits.deBruijn64tab"], plainKeys := false, apart := false, laid := [("math/bits.deBruijn32tab", laid_math_bits_deBruijn32tab), ("math/bits.deBruijn64tab", laid_math_bits_deBruijn64tab)], narrowed := true }
def SaleKnownUptoSaid : Prop := saleKnownUptoRow.holds Tryd.pinned (OpenSpec.upto saleKnownSpec)

end Rows
end Go.Proofs.YtmbngjlhaelhcaaDoor
