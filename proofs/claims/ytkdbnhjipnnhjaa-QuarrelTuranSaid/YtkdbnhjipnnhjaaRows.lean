/-
  No cell of these rows narrows 'for every input' (looked for: loops, veiled, ifaces, maps, wideKeys, modest, calm, conditions, laid).
  DERIVED. THE GIVEN ROWS OF THIS SEAT. 3 by the template 'for every input the law returns true; each argument reads behind the call as it read before'; 0 by the template 'total and deterministic' (their statements: YtkdbnhjipnnhjaaTotals.lean).
  GIVEN WITH THE SEED: the statements are not yours to turn. If you find one false, say at which input.
  Laid BY PROGRAM, IN A SANDBOX (cutbox-rows.mjs): the forced cells as the released guide's own fill.sh prints them over the translation 540b731bcdf0a41d… (all of the seat's roots in one cut). By AI agents, Wed Nov 11 2026. No macro, syntax, notation, axiom, sorry.
-/
import Derived.Test.YtkdbnhjipnnhjaaChecked
import GoSem.Claim
import GoSem.ClaimJoined
import GoSem.ClaimMapViews
import Derived.JoinedTies
import Derived.KernelRfl
namespace Go.Proofs.Ytkdbnhjipnnhjaa
/- THE CELL 'sum', in the pinned program and in every row, IS THE sha256 OF THE DUMP (.gsa) THAT YtkdbnhjipnnhjaaProg.lean LOADS. Nothing in Lean hashes anything: it is a label: what it is worth is what the hold of that sum in a sandbox is worth. -/
noncomputable def Try.pinned : Pinned := { name := "ytkdbnhjipnnhjaa", sum := "540b731bcdf0a41d8e3883b477a3b11f7d9a5bb3dd973d9eb469f1bb2f5bba7e", checked := Try.checked }
namespace Rows
def none {H : Type} : Left H := { results := [], args := [] }

/-- 'aigrettelaw12.QuarrelMost': WHATEVER THE INPUT: true; the input reads as it did. -/
def quarrelMostSpec : ChangeSpec := { name := "quarrelMost", fn := fun _ => fun
  | [d1, d2] => { results := [.lit (.bool true)], args := [d1, d2] }
  | _ => none }
def quarrelMostRow : OpenClaim := { program := "ytkdbnhjipnnhjaa", sum := "540b731bcdf0a41d8e3883b477a3b11f7d9a5bb3dd973d9eb469f1bb2f5bba7e", func := "aigrette/aigrettelaw12.QuarrelMost", spec := "quarrelMost", recurses := true, apart := false }
def QuarrelMostSaid : Prop := quarrelMostRow.holds Try.pinned (OpenSpec.ofChange quarrelMostSpec)

/-- ITS FALSE NEIGHBOUR: 'it returns false'. Refute it at one input. -/
def quarrelMostWrong : ChangeSpec := { name := "quarrelMost", fn := fun _ => fun
  | [d1, d2] => { results := [.lit (.bool false)], args := [d1, d2] }
  | _ => none }
def QuarrelMostWrongFalsely : Prop := quarrelMostRow.holds Try.pinned (OpenSpec.ofChange quarrelMostWrong)

/-- 'aigrettelaw12.QuarrelTuran': WHATEVER THE INPUT: true; the input reads as it did. -/
def quarrelTuranSpec : ChangeSpec := { name := "quarrelTuran", fn := fun _ => fun
  | [d1, d2] => { results := [.lit (.bool true)], args := [d1, d2] }
  | _ => none }
def quarrelTuranRow : OpenClaim := { program := "ytkdbnhjipnnhjaa", sum := "540b731bcdf0a41d8e3883b477a3b11f7d9a5bb3dd973d9eb469f1bb2f5bba7e", func := "aigrette/aigrettelaw12.QuarrelTuran", spec := "quarrelTuran", recurses := true, apart := false }
def QuarrelTuranSaid : Prop := quarrelTuranRow.holds Try.pinned (OpenSpec.ofChange quarrelTuranSpec)

/-- ITS FALSE NEIGHBOUR: 'it returns false'. Refute it at one input. -/
def quarrelTuranWrong : ChangeSpec := { name := "quarrelTuran", fn := fun _ => fun
  | [d1, d2] => { results := [.lit (.bool false)], args := [d1, d2] }
  | _ => none }
def QuarrelTuranWrongFalsely : Prop := quarrelTuranRow.holds Try.pinned (OpenSpec.ofChange quarrelTuranWrong)

/-- 'aigrettelaw12.QuarrelKnown': WHATEVER THE INPUT: true; the input reads as it did. -/
def quarrelKnownSpec : ChangeSpec := { name := "quarrelKnown", fn := fun _ => fun
  | [] => { results := [.lit (.bool true)], args := [] }
  | _ => none }
def quarrelKnownRow : OpenClaim := { program := "ytkdbnhjipnnhjaa", sum := "540b731bcdf0a41d8e3883b477a3b11f7d9a5bb3dd973d9eb469f1bb2f5bba7e", func := "aigrette/aigrettelaw12.QuarrelKnown", spec := "quarrelKnown", recurses := true, apart := false }
def QuarrelKnownSaid : Prop := quarrelKnownRow.holds Try.pinned (OpenSpec.ofChange quarrelKnownSpec)

/-- ITS FALSE NEIGHBOUR: 'it returns false'. Refute it at one input. -/
def quarrelKnownWrong : ChangeSpec := { name := "quarrelKnown", fn := fun _ => fun
  | [] => { results := [.lit (.bool false)], args := [] }
  | _ => none }
def QuarrelKnownWrongFalsely : Prop := quarrelKnownRow.holds Try.pinned (OpenSpec.ofChange quarrelKnownWrong)

/- THE SECOND FORM. 'bulk': how many values and letters a reading holds, each counted each time it is reached (what is shared counts as often as it is met; a slice's spare places count too). A statement '..UptoSaid' is the law's where the arguments, and the package variables that the reading takes, are together of bulk at most 1048576: NARROWER than '..Said'. Prove '..Said' where nothing that the law and all that it calls make is longer than what came in: it says more and counts as full. Else prove '..UptoSaid'. A law counts once. -/
mutual
def uptoBulk {H : Type} : DataW H → Nat
  | .lit (.string bytes) => bytes.length + 1
  | .lit _ => 1
  | .nil => 1
  | .ptr d => uptoBulk d + 1
  | .slice elems spare => uptoBulkAll elems + uptoBulkAll spare + 1
  | .agg parts => uptoBulkAll parts + 1
  | .iface _ d => uptoBulk d + 1
  | .map entries => uptoBulkEntries entries + 1
  | .held _ => 1
def uptoBulkAll {H : Type} : List (DataW H) → Nat
  | [] => 0
  | d :: r => uptoBulk d + uptoBulkAll r
def uptoBulkEntries {H : Type} : List (Lit × DataW H) → Nat
  | [] => 0
  | x :: r => uptoBulkEntry x + uptoBulkEntries r
def uptoBulkEntry {H : Type} : Lit × DataW H → Nat
  | (.string bytes, d) => bytes.length + uptoBulk d + 1
  | (_, d) => uptoBulk d + 1
 end
def uptoSmall : (H : Type) → List (DataW H) → Bool := fun _ ds => decide (uptoBulkAll ds ≤ 1048576)
def OpenSpec.upto (s : _root_.Go.ChangeSpec) : _root_.Go.OpenSpec := { _root_.Go.OpenSpec.ofChange s with cond := some uptoSmall }

/-- 'aigrettelaw12.QuarrelMost', WHERE WHAT IT READS IS OF BULK AT MOST 1048576: true; the input reads as it did. -/
def quarrelMostUptoRow : OpenClaim := { program := "ytkdbnhjipnnhjaa", sum := "540b731bcdf0a41d8e3883b477a3b11f7d9a5bb3dd973d9eb469f1bb2f5bba7e", func := "aigrette/aigrettelaw12.QuarrelMost", spec := "quarrelMost", recurses := true, apart := false, narrowed := true }
def QuarrelMostUptoSaid : Prop := quarrelMostUptoRow.holds Try.pinned (OpenSpec.upto quarrelMostSpec)

/-- 'aigrettelaw12.QuarrelTuran', WHERE WHAT IT READS IS OF BULK AT MOST 1048576: true; the input reads as it did. -/
def quarrelTuranUptoRow : OpenClaim := { program := "ytkdbnhjipnnhjaa", sum := "540b731bcdf0a41d8e3883b477a3b11f7d9a5bb3dd973d9eb469f1bb2f5bba7e", func := "aigrette/aigrettelaw12.QuarrelTuran", spec := "quarrelTuran", recurses := true, apart := false, narrowed := true }
def QuarrelTuranUptoSaid : Prop := quarrelTuranUptoRow.holds Try.pinned (OpenSpec.upto quarrelTuranSpec)

/-- 'aigrettelaw12.QuarrelKnown', WHERE WHAT IT READS IS OF BULK AT MOST 1048576: true; the input reads as it did. -/
def quarrelKnownUptoRow : OpenClaim := { program := "ytkdbnhjipnnhjaa", sum := "540b731bcdf0a41d8e3883b477a3b11f7d9a5bb3dd973d9eb469f1bb2f5bba7e", func := "aigrette/aigrettelaw12.QuarrelKnown", spec := "quarrelKnown", recurses := true, apart := false, narrowed := true }
def QuarrelKnownUptoSaid : Prop := quarrelKnownUptoRow.holds Try.pinned (OpenSpec.upto quarrelKnownSpec)

end Rows
end Go.Proofs.Ytkdbnhjipnnhjaa
