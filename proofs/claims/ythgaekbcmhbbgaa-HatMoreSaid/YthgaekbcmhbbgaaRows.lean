/-
  No cell of these rows narrows 'for every input' (looked for: loops, veiled, ifaces, maps, wideKeys, modest, calm, conditions, laid).
  DERIVED. THE GIVEN ROWS OF THIS SEAT. 3 by the template 'for every input the law returns true; each argument reads behind the call as it read before'; 0 by the template 'total and deterministic' (their statements: YthgaekbcmhbbgaaTotals.lean).
  GIVEN WITH THE SEED: the statements are not yours to turn. If you find one false, say at which input.
  Laid BY PROGRAM, IN A SANDBOX (cutbox-rows.mjs): the forced cells as the released guide's own fill.sh prints them over the translation 1585054456939b80… (all of the seat's roots in one cut). By AI agents, Wed Nov 11 2026. No macro, syntax, notation, axiom, sorry.
-/
import Derived.Test.YthgaekbcmhbbgaaChecked
import GoSem.Claim
import GoSem.ClaimJoined
import GoSem.ClaimMapViews
import Derived.JoinedTies
import Derived.KernelRfl
namespace Go.Proofs.Ythgaekbcmhbbgaa
/- THE CELL 'sum', in the pinned program and in every row, IS THE sha256 OF THE DUMP (.gsa) THAT YthgaekbcmhbbgaaProg.lean LOADS. Nothing in Lean hashes anything: it is a label: what it is worth is what the hold of that sum in a sandbox is worth. -/
noncomputable def Try.pinned : Pinned := { name := "ythgaekbcmhbbgaa", sum := "1585054456939b803436efee1bd75e9ef1ec4be770572f3dc5e7e0741610e5e8", checked := Try.checked }
namespace Rows
def none {H : Type} : Left H := { results := [], args := [] }

/-- 'aigrettelaw10.HatCodes': WHATEVER THE INPUT: true; the input reads as it did. -/
def hatCodesSpec : ChangeSpec := { name := "hatCodes", fn := fun _ => fun
  | [d1, d2] => { results := [.lit (.bool true)], args := [d1, d2] }
  | _ => none }
def hatCodesRow : OpenClaim := { program := "ythgaekbcmhbbgaa", sum := "1585054456939b803436efee1bd75e9ef1ec4be770572f3dc5e7e0741610e5e8", func := "aigrette/aigrettelaw10.HatCodes", spec := "hatCodes", unfollowed := true, recurses := true, apart := false }
def HatCodesSaid : Prop := hatCodesRow.holds Try.pinned (OpenSpec.ofChange hatCodesSpec)

/-- ITS FALSE NEIGHBOUR: 'it returns false'. Refute it at one input. -/
def hatCodesWrong : ChangeSpec := { name := "hatCodes", fn := fun _ => fun
  | [d1, d2] => { results := [.lit (.bool false)], args := [d1, d2] }
  | _ => none }
def HatCodesWrongFalsely : Prop := hatCodesRow.holds Try.pinned (OpenSpec.ofChange hatCodesWrong)

/-- 'aigrettelaw10.HatCover': WHATEVER THE INPUT: true; the input reads as it did. -/
def hatCoverSpec : ChangeSpec := { name := "hatCover", fn := fun _ => fun
  | [d1, d2] => { results := [.lit (.bool true)], args := [d1, d2] }
  | _ => none }
def hatCoverRow : OpenClaim := { program := "ythgaekbcmhbbgaa", sum := "1585054456939b803436efee1bd75e9ef1ec4be770572f3dc5e7e0741610e5e8", func := "aigrette/aigrettelaw10.HatCover", spec := "hatCover", unfollowed := true, recurses := true, apart := false }
def HatCoverSaid : Prop := hatCoverRow.holds Try.pinned (OpenSpec.ofChange hatCoverSpec)

/-- ITS FALSE NEIGHBOUR: 'it returns false'. Refute it at one input. -/
def hatCoverWrong : ChangeSpec := { name := "hatCover", fn := fun _ => fun
  | [d1, d2] => { results := [.lit (.bool false)], args := [d1, d2] }
  | _ => none }
def HatCoverWrongFalsely : Prop := hatCoverRow.holds Try.pinned (OpenSpec.ofChange hatCoverWrong)

/-- 'aigrettelaw10.HatMore': WHATEVER THE INPUT: true; the input reads as it did. -/
def hatMoreSpec : ChangeSpec := { name := "hatMore", fn := fun _ => fun
  | [d1, d2, d3] => { results := [.lit (.bool true)], args := [d1, d2, d3] }
  | _ => none }
def hatMoreRow : OpenClaim := { program := "ythgaekbcmhbbgaa", sum := "1585054456939b803436efee1bd75e9ef1ec4be770572f3dc5e7e0741610e5e8", func := "aigrette/aigrettelaw10.HatMore", spec := "hatMore", unfollowed := true, recurses := true, apart := false }
def HatMoreSaid : Prop := hatMoreRow.holds Try.pinned (OpenSpec.ofChange hatMoreSpec)

/-- ITS FALSE NEIGHBOUR: 'it returns false'. Refute it at one input. -/
def hatMoreWrong : ChangeSpec := { name := "hatMore", fn := fun _ => fun
  | [d1, d2, d3] => { results := [.lit (.bool false)], args := [d1, d2, d3] }
  | _ => none }
def HatMoreWrongFalsely : Prop := hatMoreRow.holds Try.pinned (OpenSpec.ofChange hatMoreWrong)

/- THE SECOND FORM. 'bulk': how many values and letters a reading holds, each counted each time it is reached (what is shared counts as often as it is met; a slice's spare places count too). A statement '..UptoSaid' is the law's where the arguments, and the package variables that the reading takes, are together of bulk at most 1048576: NARROWER than '..Said'. Prove '..Said' where nothing that the law and all that it calls make is longer than what came in: it says more and counts as full. Else prove '..UptoSaid'. A law counts once. -/
mutual
def uptoBulk {H : Type} : DataW H → Nat
  | .lit (.string bytes) => bytes.length + 1
  | .lit _ => 1
  | .nil => 1
  | .ptr d => uptoBulk d + 1
  | .slice elems spare => uptoBulkAll elems + uptoBulkAll spare + 1
  | .agg parts => uptoBulkAll parts + 1
  | .iface _ d => uptoBulk d + 1
  | .map entries => uptoBulkEntries entries + 1
  | .held _ => 1
def uptoBulkAll {H : Type} : List (DataW H) → Nat
  | [] => 0
  | d :: r => uptoBulk d + uptoBulkAll r
def uptoBulkEntries {H : Type} : List (Lit × DataW H) → Nat
  | [] => 0
  | x :: r => uptoBulkEntry x + uptoBulkEntries r
def uptoBulkEntry {H : Type} : Lit × DataW H → Nat
  | (.string bytes, d) => bytes.length + uptoBulk d + 1
  | (_, d) => uptoBulk d + 1
 end
def uptoSmall : (H : Type) → List (DataW H) → Bool := fun _ ds => decide (uptoBulkAll ds ≤ 1048576)
def OpenSpec.upto (s : _root_.Go.ChangeSpec) : _root_.Go.OpenSpec := { _root_.Go.OpenSpec.ofChange s with cond := some uptoSmall }

/-- 'aigrettelaw10.HatCodes', WHERE WHAT IT READS IS OF BULK AT MOST 1048576: true; the input reads as it did. -/
def hatCodesUptoRow : OpenClaim := { program := "ythgaekbcmhbbgaa", sum := "1585054456939b803436efee1bd75e9ef1ec4be770572f3dc5e7e0741610e5e8", func := "aigrette/aigrettelaw10.HatCodes", spec := "hatCodes", unfollowed := true, recurses := true, apart := false, narrowed := true }
def HatCodesUptoSaid : Prop := hatCodesUptoRow.holds Try.pinned (OpenSpec.upto hatCodesSpec)

/-- 'aigrettelaw10.HatCover', WHERE WHAT IT READS IS OF BULK AT MOST 1048576: true; the input reads as it did. -/
def hatCoverUptoRow : OpenClaim := { program := "ythgaekbcmhbbgaa", sum := "1585054456939b803436efee1bd75e9ef1ec4be770572f3dc5e7e0741610e5e8", func := "aigrette/aigrettelaw10.HatCover", spec := "hatCover", unfollowed := true, recurses := true, apart := false, narrowed := true }
def HatCoverUptoSaid : Prop := hatCoverUptoRow.holds Try.pinned (OpenSpec.upto hatCoverSpec)

/-- 'aigrettelaw10.HatMore', WHERE WHAT IT READS IS OF BULK AT MOST 1048576: true; the input reads as it did. -/
def hatMoreUptoRow : OpenClaim := { program := "ythgaekbcmhbbgaa", sum := "1585054456939b803436efee1bd75e9ef1ec4be770572f3dc5e7e0741610e5e8", func := "aigrette/aigrettelaw10.HatMore", spec := "hatMore", unfollowed := true, recurses := true, apart := false, narrowed := true }
def HatMoreUptoSaid : Prop := hatMoreUptoRow.holds Try.pinned (OpenSpec.upto hatMoreSpec)

end Rows
end Go.Proofs.Ythgaekbcmhbbgaa
