/-
  No cell of these rows narrows 'for every input' (looked for: loops, veiled, ifaces, maps, wideKeys, modest, calm, conditions, laid).
  DERIVED. THE GIVEN ROWS OF THIS SEAT. 3 by the template 'for every input the law returns true; each argument reads behind the call as it read before'; 0 by the template 'total and deterministic' (their statements: YtnmbhgchffebmaaTotals.lean).
  GIVEN WITH THE SEED: the statements are not yours to turn. If you find one false, say at which input.
  Laid BY PROGRAM, IN A SANDBOX (cutbox-rows.mjs): the forced cells as the released guide's own fill.sh prints them over the translation f2e1249d5c1577bb… (all of the seat's roots in one cut). By AI agents, Wed Nov 11 2026. No macro, syntax, notation, axiom, sorry.
-/
import Derived.Test.YtnmbhgchffebmaaChecked
import GoSem.Claim
import GoSem.ClaimJoined
import GoSem.ClaimMapViews
import Derived.JoinedTies
import Derived.KernelRfl
namespace Go.Proofs.Ytnmbhgchffebmaa
/- THE CELL 'sum', in the pinned program and in every row, IS THE sha256 OF THE DUMP (.gsa) THAT YtnmbhgchffebmaaProg.lean LOADS. Nothing in Lean hashes anything: it is a label: what it is worth is what the hold of that sum in a sandbox is worth. -/
noncomputable def Try.pinned : Pinned := { name := "ytnmbhgchffebmaa", sum := "f2e1249d5c1577bbec052f6b757a37710f2282c4f14c844b8208c092e28adb34", checked := Try.checked }
namespace Rows
def none {H : Type} : Left H := { results := [], args := [] }

/-- 'aigrettelaw07.CurlCounted': WHATEVER THE INPUT: true; the input reads as it did. -/
def curlCountedSpec : ChangeSpec := { name := "curlCounted", fn := fun _ => fun
  | [d1, d2] => { results := [.lit (.bool true)], args := [d1, d2] }
  | _ => none }
def curlCountedRow : OpenClaim := { program := "ytnmbhgchffebmaa", sum := "f2e1249d5c1577bbec052f6b757a37710f2282c4f14c844b8208c092e28adb34", func := "aigrette/aigrettelaw07.CurlCounted", spec := "curlCounted", inPlace := ["internal/abi.NoEscape", "internal/bytealg.IndexByteString", "internal/bytealg.IndexString", "internal/bytealg.MakeNoZero"], unfollowed := true, recurses := true, named := ["internal/bytealg.MaxLen"], apart := false }
def CurlCountedSaid : Prop := curlCountedRow.holds Try.pinned (OpenSpec.ofChange curlCountedSpec)

/-- ITS FALSE NEIGHBOUR: 'it returns false'. Refute it at one input. -/
def curlCountedWrong : ChangeSpec := { name := "curlCounted", fn := fun _ => fun
  | [d1, d2] => { results := [.lit (.bool false)], args := [d1, d2] }
  | _ => none }
def CurlCountedWrongFalsely : Prop := curlCountedRow.holds Try.pinned (OpenSpec.ofChange curlCountedWrong)

/-- 'aigrettelaw07.CurlKnown': WHATEVER THE INPUT: true; the input reads as it did. -/
def curlKnownSpec : ChangeSpec := { name := "curlKnown", fn := fun _ => fun
  | [] => { results := [.lit (.bool true)], args := [] }
  | _ => none }
def curlKnownRow : OpenClaim := { program := "ytnmbhgchffebmaa", sum := "f2e1249d5c1577bbec052f6b757a37710f2282c4f14c844b8208c092e28adb34", func := "aigrette/aigrettelaw07.CurlKnown", spec := "curlKnown", inPlace := ["internal/bytealg.IndexByteString", "internal/bytealg.IndexString", "internal/abi.NoEscape", "internal/bytealg.MakeNoZero"], unfollowed := true, recurses := true, named := ["internal/bytealg.MaxLen"], apart := false }
def CurlKnownSaid : Prop := curlKnownRow.holds Try.pinned (OpenSpec.ofChange curlKnownSpec)

/-- ITS FALSE NEIGHBOUR: 'it returns false'. Refute it at one input. -/
def curlKnownWrong : ChangeSpec := { name := "curlKnown", fn := fun _ => fun
  | [] => { results := [.lit (.bool false)], args := [] }
  | _ => none }
def CurlKnownWrongFalsely : Prop := curlKnownRow.holds Try.pinned (OpenSpec.ofChange curlKnownWrong)

/-- 'aigrettelaw11.BranchKnown': WHATEVER THE INPUT: true; the input reads as it did. -/
def branchKnownSpec : ChangeSpec := { name := "branchKnown", fn := fun _ => fun
  | [] => { results := [.lit (.bool true)], args := [] }
  | _ => none }
def branchKnownRow : OpenClaim := { program := "ytnmbhgchffebmaa", sum := "f2e1249d5c1577bbec052f6b757a37710f2282c4f14c844b8208c092e28adb34", func := "aigrette/aigrettelaw11.BranchKnown", spec := "branchKnown", inPlace := ["internal/abi.NoEscape", "internal/bytealg.MakeNoZero"], unfollowed := true, recurses := true, apart := false }
def BranchKnownSaid : Prop := branchKnownRow.holds Try.pinned (OpenSpec.ofChange branchKnownSpec)

/-- ITS FALSE NEIGHBOUR: 'it returns false'. Refute it at one input. -/
def branchKnownWrong : ChangeSpec := { name := "branchKnown", fn := fun _ => fun
  | [] => { results := [.lit (.bool false)], args := [] }
  | _ => none }
def BranchKnownWrongFalsely : Prop := branchKnownRow.holds Try.pinned (OpenSpec.ofChange branchKnownWrong)

/- THE SECOND FORM. 'bulk': how many values and letters a reading holds, each counted each time it is reached (what is shared counts as often as it is met; a slice's spare places count too). A statement '..UptoSaid' is the law's where the arguments, and the package variables that the reading takes, are together of bulk at most 1048576: NARROWER than '..Said'. Prove '..Said' where nothing that the law and all that it calls make is longer than what came in: it says more and counts as full. Else prove '..UptoSaid'. A law counts once. -/
mutual
def uptoBulk {H : Type} : DataW H → Nat
  | .lit (.string bytes) => bytes.length + 1
  | .lit _ => 1
  | .nil => 1
  | .ptr d => uptoBulk d + 1
  | .slice elems spare => uptoBulkAll elems + uptoBulkAll spare + 1
  | .agg parts => uptoBulkAll parts + 1
  | .iface _ d => uptoBulk d + 1
  | .map entries => uptoBulkEntries entries + 1
  | .held _ => 1
def uptoBulkAll {H : Type} : List (DataW H) → Nat
  | [] => 0
  | d :: r => uptoBulk d + uptoBulkAll r
def uptoBulkEntries {H : Type} : List (Lit × DataW H) → Nat
  | [] => 0
  | x :: r => uptoBulkEntry x + uptoBulkEntries r
def uptoBulkEntry {H : Type} : Lit × DataW H → Nat
  | (.string bytes, d) => bytes.length + uptoBulk d + 1
  | (_, d) => uptoBulk d + 1
 end
def uptoSmall : (H : Type) → List (DataW H) → Bool := fun _ ds => decide (uptoBulkAll ds ≤ 1048576)
def OpenSpec.upto (s : _root_.Go.ChangeSpec) : _root_.Go.OpenSpec := { _root_.Go.OpenSpec.ofChange s with cond := some uptoSmall }

/-- 'aigrettelaw07.CurlCounted', WHERE WHAT IT READS IS OF BULK AT MOST 1048576: true; the input reads as it did. -/
def curlCountedUptoRow : OpenClaim := { program := "ytnmbhgchffebmaa", sum := "f2e1249d5c1577bbec052f6b757a37710f2282c4f14c844b8208c092e28adb34", func := "aigrette/aigrettelaw07.CurlCounted", spec := "curlCounted", inPlace := ["internal/abi.NoEscape", "internal/bytealg.IndexByteString", "internal/bytealg.IndexString", "internal/bytealg.MakeNoZero"], unfollowed := true, recurses := true, named := ["internal/bytealg.MaxLen"], apart := false, narrowed := true }
def CurlCountedUptoSaid : Prop := curlCountedUptoRow.holds Try.pinned (OpenSpec.upto curlCountedSpec)

/-- 'aigrettelaw07.CurlKnown', WHERE WHAT IT READS IS OF BULK AT MOST 1048576: true; the input reads as it did. -/
def curlKnownUptoRow : OpenClaim := { program := "ytnmbhgchffebmaa", sum := "f2e1249d5c1577bbec052f6b757a37710f2282c4f14c844b8208c092e28adb34", func := "aigrette/aigrettelaw07.CurlKnown", spec := "curlKnown", inPlace := ["internal/bytealg.IndexByteString", "internal/bytealg.IndexString", "internal/abi.NoEscape", "internal/bytealg.MakeNoZero"], unfollowed := true, recurses := true, named := ["internal/bytealg.MaxLen"], apart := false, narrowed := true }
def CurlKnownUptoSaid : Prop := curlKnownUptoRow.holds Try.pinned (OpenSpec.upto curlKnownSpec)

/-- 'aigrettelaw11.BranchKnown', WHERE WHAT IT READS IS OF BULK AT MOST 1048576: true; the input reads as it did. -/
def branchKnownUptoRow : OpenClaim := { program := "ytnmbhgchffebmaa", sum := "f2e1249d5c1577bbec052f6b757a37710f2282c4f14c844b8208c092e28adb34", func := "aigrette/aigrettelaw11.BranchKnown", spec := "branchKnown", inPlace := ["internal/abi.NoEscape", "internal/bytealg.MakeNoZero"], unfollowed := true, recurses := true, apart := false, narrowed := true }
def BranchKnownUptoSaid : Prop := branchKnownUptoRow.holds Try.pinned (OpenSpec.upto branchKnownSpec)

end Rows
end Go.Proofs.Ytnmbhgchffebmaa
