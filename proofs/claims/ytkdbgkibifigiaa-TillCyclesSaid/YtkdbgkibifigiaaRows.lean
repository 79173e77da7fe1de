/-
  No cell of these rows narrows 'for every input' (looked for: loops, veiled, ifaces, maps, wideKeys, modest, calm, conditions, laid).
  DERIVED. THE GIVEN ROWS OF THIS SEAT. 10 by the template 'for every input the law returns true; each argument reads behind the call as it read before'; 0 by the template 'total and deterministic' (their statements: YtkdbgkibifigiaaTotals.lean).
  GIVEN WITH THE SEED: the statements are not yours to turn. If you find one false, say at which input.
  Laid BY PROGRAM, IN A SANDBOX (cutbox-rows.mjs): the forced cells as the released guide's own fill.sh prints them over the translation 1ae3bcab65fad9c5… (all of the seat's roots in one cut). By AI agents, Wed Nov 11 2026. No macro, syntax, notation, axiom, sorry.
-/
import Derived.Test.YtkdbgkibifigiaaChecked
import GoSem.Claim
import GoSem.ClaimJoined
import GoSem.ClaimMapViews
import Derived.JoinedTies
import Derived.KernelRfl
namespace Go.Proofs.Ytkdbgkibifigiaa
/- THE CELL 'sum', in the pinned program and in every row, IS THE sha256 OF THE DUMP (.gsa) THAT YtkdbgkibifigiaaProg.lean LOADS. Nothing in Lean hashes anything: it is a label: what it is worth is what the hold of that sum in a sandbox is worth. -/
noncomputable def Try.pinned : Pinned := { name := "ytkdbgkibifigiaa", sum := "1ae3bcab65fad9c54b210443eaca0510f73cf88379b78028900b48153f4d219b", checked := Try.checked }
namespace Rows
def none {H : Type} : Left H := { results := [], args := [] }

/-- 'aigrettelaw05.TillLacks': WHATEVER THE INPUT: true; the input reads as it did. -/
def tillLacksSpec : ChangeSpec := { name := "tillLacks", fn := fun _ => fun
  | [d1, d2] => { results := [.lit (.bool true)], args := [d1, d2] }
  | _ => none }
def tillLacksRow : OpenClaim := { program := "ytkdbgkibifigiaa", sum := "1ae3bcab65fad9c54b210443eaca0510f73cf88379b78028900b48153f4d219b", func := "aigrette/aigrettelaw05.TillLacks", spec := "tillLacks", unfollowed := true, recurses := true, apart := false }
def TillLacksSaid : Prop := tillLacksRow.holds Try.pinned (OpenSpec.ofChange tillLacksSpec)

/-- ITS FALSE NEIGHBOUR: 'it returns false'. Refute it at one input. -/
def tillLacksWrong : ChangeSpec := { name := "tillLacks", fn := fun _ => fun
  | [d1, d2] => { results := [.lit (.bool false)], args := [d1, d2] }
  | _ => none }
def TillLacksWrongFalsely : Prop := tillLacksRow.holds Try.pinned (OpenSpec.ofChange tillLacksWrong)

/-- 'aigrettelaw05.TillCounts': WHATEVER THE INPUT: true; the input reads as it did. -/
def tillCountsSpec : ChangeSpec := { name := "tillCounts", fn := fun _ => fun
  | [d1, d2, d3, d4] => { results := [.lit (.bool true)], args := [d1, d2, d3, d4] }
  | _ => none }
def tillCountsRow : OpenClaim := { program := "ytkdbgkibifigiaa", sum := "1ae3bcab65fad9c54b210443eaca0510f73cf88379b78028900b48153f4d219b", func := "aigrette/aigrettelaw05.TillCounts", spec := "tillCounts", unfollowed := true, recurses := true, apart := false }
def TillCountsSaid : Prop := tillCountsRow.holds Try.pinned (OpenSpec.ofChange tillCountsSpec)

/-- ITS FALSE NEIGHBOUR: 'it returns false'. Refute it at one input. -/
def tillCountsWrong : ChangeSpec := { name := "tillCounts", fn := fun _ => fun
  | [d1, d2, d3, d4] => { results := [.lit (.bool false)], args := [d1, d2, d3, d4] }
  | _ => none }
def TillCountsWrongFalsely : Prop := tillCountsRow.holds Try.pinned (OpenSpec.ofChange tillCountsWrong)

/-- 'aigrettelaw05.TillTurns': WHATEVER THE INPUT: true; the input reads as it did. -/
def tillTurnsSpec : ChangeSpec := { name := "tillTurns", fn := fun _ => fun
  | [d1, d2] => { results := [.lit (.bool true)], args := [d1, d2] }
  | _ => none }
def tillTurnsRow : OpenClaim := { program := "ytkdbgkibifigiaa", sum := "1ae3bcab65fad9c54b210443eaca0510f73cf88379b78028900b48153f4d219b", func := "aigrette/aigrettelaw05.TillTurns", spec := "tillTurns", unfollowed := true, recurses := true, apart := false }
def TillTurnsSaid : Prop := tillTurnsRow.holds Try.pinned (OpenSpec.ofChange tillTurnsSpec)

/-- ITS FALSE NEIGHBOUR: 'it returns false'. Refute it at one input. -/
def tillTurnsWrong : ChangeSpec := { name := "tillTurns", fn := fun _ => fun
  | [d1, d2] => { results := [.lit (.bool false)], args := [d1, d2] }
  | _ => none }
def TillTurnsWrongFalsely : Prop := tillTurnsRow.holds Try.pinned (OpenSpec.ofChange tillTurnsWrong)

/-- 'aigrettelaw05.TillServes': WHATEVER THE INPUT: true; the input reads as it did. -/
def tillServesSpec : ChangeSpec := { name := "tillServes", fn := fun _ => fun
  | [d1, d2] => { results := [.lit (.bool true)], args := [d1, d2] }
  | _ => none }
def tillServesRow : OpenClaim := { program := "ytkdbgkibifigiaa", sum := "1ae3bcab65fad9c54b210443eaca0510f73cf88379b78028900b48153f4d219b", func := "aigrette/aigrettelaw05.TillServes", spec := "tillServes", unfollowed := true, recurses := true, apart := false }
def TillServesSaid : Prop := tillServesRow.holds Try.pinned (OpenSpec.ofChange tillServesSpec)

/-- ITS FALSE NEIGHBOUR: 'it returns false'. Refute it at one input. -/
def tillServesWrong : ChangeSpec := { name := "tillServes", fn := fun _ => fun
  | [d1, d2] => { results := [.lit (.bool false)], args := [d1, d2] }
  | _ => none }
def TillServesWrongFalsely : Prop := tillServesRow.holds Try.pinned (OpenSpec.ofChange tillServesWrong)

/-- 'aigrettelaw05.TillBallots': WHATEVER THE INPUT: true; the input reads as it did. -/
def tillBallotsSpec : ChangeSpec := { name := "tillBallots", fn := fun _ => fun
  | [d1, d2, d3] => { results := [.lit (.bool true)], args := [d1, d2, d3] }
  | _ => none }
def tillBallotsRow : OpenClaim := { program := "ytkdbgkibifigiaa", sum := "1ae3bcab65fad9c54b210443eaca0510f73cf88379b78028900b48153f4d219b", func := "aigrette/aigrettelaw05.TillBallots", spec := "tillBallots", unfollowed := true, recurses := true, apart := false }
def TillBallotsSaid : Prop := tillBallotsRow.holds Try.pinned (OpenSpec.ofChange tillBallotsSpec)

/-- ITS FALSE NEIGHBOUR: 'it returns false'. Refute it at one input. -/
def tillBallotsWrong : ChangeSpec := { name := "tillBallots", fn := fun _ => fun
  | [d1, d2, d3] => { results := [.lit (.bool false)], args := [d1, d2, d3] }
  | _ => none }
def TillBallotsWrongFalsely : Prop := tillBallotsRow.holds Try.pinned (OpenSpec.ofChange tillBallotsWrong)

/-- 'aigrettelaw05.TillCycles': WHATEVER THE INPUT: true; the input reads as it did. -/
def tillCyclesSpec : ChangeSpec := { name := "tillCycles", fn := fun _ => fun
  | [d1, d2] => { results := [.lit (.bool true)], args := [d1, d2] }
  | _ => none }
def tillCyclesRow : OpenClaim := { program := "ytkdbgkibifigiaa", sum := "1ae3bcab65fad9c54b210443eaca0510f73cf88379b78028900b48153f4d219b", func := "aigrette/aigrettelaw05.TillCycles", spec := "tillCycles", unfollowed := true, recurses := true, apart := false }
def TillCyclesSaid : Prop := tillCyclesRow.holds Try.pinned (OpenSpec.ofChange tillCyclesSpec)

/-- ITS FALSE NEIGHBOUR: 'it returns false'. Refute it at one input. -/
def tillCyclesWrong : ChangeSpec := { name := "tillCycles", fn := fun _ => fun
  | [d1, d2] => { results := [.lit (.bool false)], args := [d1, d2] }
  | _ => none }
def TillCyclesWrongFalsely : Prop := tillCyclesRow.holds Try.pinned (OpenSpec.ofChange tillCyclesWrong)

/-- 'aigrettelaw05.TillNeeded': WHATEVER THE INPUT: true; the input reads as it did. -/
def tillNeededSpec : ChangeSpec := { name := "tillNeeded", fn := fun _ => fun
  | [d] => { results := [.lit (.bool true)], args := [d] }
  | _ => none }
def tillNeededRow : OpenClaim := { program := "ytkdbgkibifigiaa", sum := "1ae3bcab65fad9c54b210443eaca0510f73cf88379b78028900b48153f4d219b", func := "aigrette/aigrettelaw05.TillNeeded", spec := "tillNeeded", unfollowed := true, recurses := true, apart := false }
def TillNeededSaid : Prop := tillNeededRow.holds Try.pinned (OpenSpec.ofChange tillNeededSpec)

/-- ITS FALSE NEIGHBOUR: 'it returns false'. Refute it at one input. -/
def tillNeededWrong : ChangeSpec := { name := "tillNeeded", fn := fun _ => fun
  | [d] => { results := [.lit (.bool false)], args := [d] }
  | _ => none }
def TillNeededWrongFalsely : Prop := tillNeededRow.holds Try.pinned (OpenSpec.ofChange tillNeededWrong)

/-- 'aigrettelaw05.TillExchanged': WHATEVER THE INPUT: true; the input reads as it did. -/
def tillExchangedSpec : ChangeSpec := { name := "tillExchanged", fn := fun _ => fun
  | [d1, d2, d3] => { results := [.lit (.bool true)], args := [d1, d2, d3] }
  | _ => none }
def tillExchangedRow : OpenClaim := { program := "ytkdbgkibifigiaa", sum := "1ae3bcab65fad9c54b210443eaca0510f73cf88379b78028900b48153f4d219b", func := "aigrette/aigrettelaw05.TillExchanged", spec := "tillExchanged", unfollowed := true, recurses := true, apart := false }
def TillExchangedSaid : Prop := tillExchangedRow.holds Try.pinned (OpenSpec.ofChange tillExchangedSpec)

/-- ITS FALSE NEIGHBOUR: 'it returns false'. Refute it at one input. -/
def tillExchangedWrong : ChangeSpec := { name := "tillExchanged", fn := fun _ => fun
  | [d1, d2, d3] => { results := [.lit (.bool false)], args := [d1, d2, d3] }
  | _ => none }
def TillExchangedWrongFalsely : Prop := tillExchangedRow.holds Try.pinned (OpenSpec.ofChange tillExchangedWrong)

/-- 'aigrettelaw05.TillPaired': WHATEVER THE INPUT: true; the input reads as it did. -/
def tillPairedSpec : ChangeSpec := { name := "tillPaired", fn := fun _ => fun
  | [d1, d2] => { results := [.lit (.bool true)], args := [d1, d2] }
  | _ => none }
def tillPairedRow : OpenClaim := { program := "ytkdbgkibifigiaa", sum := "1ae3bcab65fad9c54b210443eaca0510f73cf88379b78028900b48153f4d219b", func := "aigrette/aigrettelaw05.TillPaired", spec := "tillPaired", unfollowed := true, recurses := true, apart := false }
def TillPairedSaid : Prop := tillPairedRow.holds Try.pinned (OpenSpec.ofChange tillPairedSpec)

/-- ITS FALSE NEIGHBOUR: 'it returns false'. Refute it at one input. -/
def tillPairedWrong : ChangeSpec := { name := "tillPaired", fn := fun _ => fun
  | [d1, d2] => { results := [.lit (.bool false)], args := [d1, d2] }
  | _ => none }
def TillPairedWrongFalsely : Prop := tillPairedRow.holds Try.pinned (OpenSpec.ofChange tillPairedWrong)

/-- 'aigrettelaw05.TillKnown': WHATEVER THE INPUT: true; the input reads as it did. -/
def tillKnownSpec : ChangeSpec := { name := "tillKnown", fn := fun _ => fun
  | [] => { results := [.lit (.bool true)], args := [] }
  | _ => none }
def tillKnownRow : OpenClaim := { program := "ytkdbgkibifigiaa", sum := "1ae3bcab65fad9c54b210443eaca0510f73cf88379b78028900b48153f4d219b", func := "aigrette/aigrettelaw05.TillKnown", spec := "tillKnown", unfollowed := true, recurses := true, apart := false }
def TillKnownSaid : Prop := tillKnownRow.holds Try.pinned (OpenSpec.ofChange tillKnownSpec)

/-- ITS FALSE NEIGHBOUR: 'it returns false'. Refute it at one input. -/
def tillKnownWrong : ChangeSpec := { name := "tillKnown", fn := fun _ => fun
  | [] => { results := [.lit (.bool false)], args := [] }
  | _ => none }
def TillKnownWrongFalsely : Prop := tillKnownRow.holds Try.pinned (OpenSpec.ofChange tillKnownWrong)

/- THE SECOND FORM. 'bulk': how many values and letters a reading holds, each counted each time it is reached (what is shared counts as often as it is met; a slice's spare places count too). A statement '..UptoSaid' is the law's where the arguments, and the package variables that the reading takes, are together of bulk at most 1048576: NARROWER than '..Said'. Prove '..Said' where nothing that the law and all that it calls make is longer than what came in: it says more and counts as full. Else prove '..UptoSaid'. A law counts once. -/
mutual
def uptoBulk {H : Type} : DataW H → Nat
  | .lit (.string bytes) => bytes.length + 1
  | .lit _ => 1
  | .nil => 1
  | .ptr d => uptoBulk d + 1
  | .slice elems spare => uptoBulkAll elems + uptoBulkAll spare + 1
  | .agg parts => uptoBulkAll parts + 1
  | .iface _ d => uptoBulk d + 1
  | .map entries => uptoBulkEntries entries + 1
  | .held _ => 1
def uptoBulkAll {H : Type} : List (DataW H) → Nat
  | [] => 0
  | d :: r => uptoBulk d + uptoBulkAll r
def uptoBulkEntries {H : Type} : List (Lit × DataW H) → Nat
  | [] => 0
  | x :: r => uptoBulkEntry x + uptoBulkEntries r
def uptoBulkEntry {H : Type} : Lit × DataW H → Nat
  | (.string bytes, d) => bytes.length + uptoBulk d + 1
  | (_, d) => uptoBulk d + 1
 end
def uptoSmall : (H : Type) → List (DataW H) → Bool := fun _ ds => decide (uptoBulkAll ds ≤ 1048576)
def OpenSpec.upto (s : _root_.Go.ChangeSpec) : _root_.Go.OpenSpec := { _root_.Go.OpenSpec.ofChange s with cond := some uptoSmall }

/-- 'aigrettelaw05.TillLacks', WHERE WHAT IT READS IS OF BULK AT MOST 1048576: true; the input reads as it did. -/
def tillLacksUptoRow : OpenClaim := { program := "ytkdbgkibifigiaa", sum := "1ae3bcab65fad9c54b210443eaca0510f73cf88379b78028900b48153f4d219b", func := "aigrette/aigrettelaw05.TillLacks", spec := "tillLacks", unfollowed := true, recurses := true, apart := false, narrowed := true }
def TillLacksUptoSaid : Prop := tillLacksUptoRow.holds Try.pinned (OpenSpec.upto tillLacksSpec)

/-- 'aigrettelaw05.TillCounts', WHERE WHAT IT READS IS OF BULK AT MOST 1048576: true; the input reads as it did. -/
def tillCountsUptoRow : OpenClaim := { program := "ytkdbgkibifigiaa", sum := "1ae3bcab65fad9c54b210443eaca0510f73cf88379b78028900b48153f4d219b", func := "aigrette/aigrettelaw05.TillCounts", spec := "tillCounts", unfollowed := true, recurses := true, apart := false, narrowed := true }
def TillCountsUptoSaid : Prop := tillCountsUptoRow.holds Try.pinned (OpenSpec.upto tillCountsSpec)

/-- 'aigrettelaw05.TillTurns', WHERE WHAT IT READS IS OF BULK AT MOST 1048576: true; the input reads as it did. -/
def tillTurnsUptoRow : OpenClaim := { program := "ytkdbgkibifigiaa", sum := "1ae3bcab65fad9c54b210443eaca0510f73cf88379b78028900b48153f4d219b", func := "aigrette/aigrettelaw05.TillTurns", spec := "tillTurns", unfollowed := true, recurses := true, apart := false, narrowed := true }
def TillTurnsUptoSaid : Prop := tillTurnsUptoRow.holds Try.pinned (OpenSpec.upto tillTurnsSpec)

/-- 'aigrettelaw05.TillServes', WHERE WHAT IT READS IS OF BULK AT MOST 1048576: true; the input reads as it did. -/
def tillServesUptoRow : OpenClaim := { program := "ytkdbgkibifigiaa", sum := "1ae3bcab65fad9c54b210443eaca0510f73cf88379b78028900b48153f4d219b", func := "aigrette/aigrettelaw05.TillServes", spec := "tillServes", unfollowed := true, recurses := true, apart := false, narrowed := true }
def TillServesUptoSaid : Prop := tillServesUptoRow.holds Try.pinned (OpenSpec.upto tillServesSpec)

/-- 'aigrettelaw05.TillBallots', WHERE WHAT IT READS IS OF BULK AT MOST 1048576: true; the input reads as it did. -/
def tillBallotsUptoRow : OpenClaim := { program := "ytkdbgkibifigiaa", sum := "1ae3bcab65fad9c54b210443eaca0510f73cf88379b78028900b48153f4d219b", func := "aigrette/aigrettelaw05.TillBallots", spec := "tillBallots", unfollowed := true, recurses := true, apart := false, narrowed := true }
def TillBallotsUptoSaid : Prop := tillBallotsUptoRow.holds Try.pinned (OpenSpec.upto tillBallotsSpec)

/-- 'aigrettelaw05.TillCycles', WHERE WHAT IT READS IS OF BULK AT MOST 1048576: true; the input reads as it did. -/
def tillCyclesUptoRow : OpenClaim := { program := "ytkdbgkibifigiaa", sum := "1ae3bcab65fad9c54b210443eaca0510f73cf88379b78028900b48153f4d219b", func := "aigrette/aigrettelaw05.TillCycles", spec := "tillCycles", unfollowed := true, recurses := true, apart := false, narrowed := true }
def TillCyclesUptoSaid : Prop := tillCyclesUptoRow.holds Try.pinned (OpenSpec.upto tillCyclesSpec)

/-- 'aigrettelaw05.TillNeeded', WHERE WHAT IT READS IS OF BULK AT MOST 1048576: true; the input reads as it did. -/
def tillNeededUptoRow : OpenClaim := { program := "ytkdbgkibifigiaa", sum := "1ae3bcab65fad9c54b210443eaca0510f73cf88379b78028900b48153f4d219b", func := "aigrette/aigrettelaw05.TillNeeded", spec := "tillNeeded", unfollowed := true, recurses := true, apart := false, narrowed := true }
def TillNeededUptoSaid : Prop := tillNeededUptoRow.holds Try.pinned (OpenSpec.upto tillNeededSpec)

/-- 'aigrettelaw05.TillExchanged', WHERE WHAT IT READS IS OF BULK AT MOST 1048576: true; the input reads as it did. -/
def tillExchangedUptoRow : OpenClaim := { program := "ytkdbgkibifigiaa", sum := "1ae3bcab65fad9c54b210443eaca0510f73cf88379b78028900b48153f4d219b", func := "aigrette/aigrettelaw05.TillExchanged", spec := "tillExchanged", unfollowed := true, recurses := true, apart := false, narrowed := true }
def TillExchangedUptoSaid : Prop := tillExchangedUptoRow.holds Try.pinned (OpenSpec.upto tillExchangedSpec)

/-- 'aigrettelaw05.TillPaired', WHERE WHAT IT READS IS OF BULK AT MOST 1048576: true; the input reads as it did. -/
def tillPairedUptoRow : OpenClaim := { program := "ytkdbgkibifigiaa", sum := "1ae3bcab65fad9c54b210443eaca0510f73cf88379b78028900b48153f4d219b", func := "aigrette/aigrettelaw05.TillPaired", spec := "tillPaired", unfollowed := true, recurses := true, apart := false, narrowed := true }
def TillPairedUptoSaid : Prop := tillPairedUptoRow.holds Try.pinned (OpenSpec.upto tillPairedSpec)

/-- 'aigrettelaw05.TillKnown', WHERE WHAT IT READS IS OF BULK AT MOST 1048576: true; the input reads as it did. -/
def tillKnownUptoRow : OpenClaim := { program := "ytkdbgkibifigiaa", sum := "1ae3bcab65fad9c54b210443eaca0510f73cf88379b78028900b48153f4d219b", func := "aigrette/aigrettelaw05.TillKnown", spec := "tillKnown", unfollowed := true, recurses := true, apart := false, narrowed := true }
def TillKnownUptoSaid : Prop := tillKnownUptoRow.holds Try.pinned (OpenSpec.upto tillKnownSpec)

end Rows
end Go.Proofs.Ytkdbgkibifigiaa
