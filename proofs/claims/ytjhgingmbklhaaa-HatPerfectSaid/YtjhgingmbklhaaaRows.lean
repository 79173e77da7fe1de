/-
  No cell of these rows narrows 'for every input' (looked for: loops, veiled, ifaces, maps, wideKeys, modest, calm, conditions, laid).
  DERIVED. THE GIVEN ROWS OF THIS SEAT. 11 by the template 'for every input the law returns true; each argument reads behind the call as it read before'; 0 by the template 'total and deterministic' (their statements: YtjhgingmbklhaaaTotals.lean).
  GIVEN WITH THE SEED: the statements are not yours to turn. If you find one false, say at which input.
  Laid BY PROGRAM, IN A SANDBOX (cutbox-rows.mjs): the forced cells as the released guide's own fill.sh prints them over the translation 9c0a63851c9fe1c4… (all of the seat's roots in one cut). By AI agents, Wed Nov 11 2026. No macro, syntax, notation, axiom, sorry.
-/
import Derived.Test.YtjhgingmbklhaaaChecked
import GoSem.Claim
import GoSem.ClaimJoined
import GoSem.ClaimMapViews
import Derived.JoinedTies
import Derived.KernelRfl
namespace Go.Proofs.Ytjhgingmbklhaaa
/- THE CELL 'sum', in the pinned program and in every row, IS THE sha256 OF THE DUMP (.gsa) THAT YtjhgingmbklhaaaProg.lean LOADS. Nothing in Lean hashes anything: it is a label: what it is worth is what the hold of that sum in a sandbox is worth. -/
noncomputable def Try.pinned : Pinned := { name := "ytjhgingmbklhaaa", sum := "9c0a63851c9fe1c4ccf6cd729149029789f98a3084b6b943958a6aa9ab1514d0", checked := Try.checked }
namespace Rows
def none {H : Type} : Left H := { results := [], args := [] }

/-- 'aigrettelaw10.HatPlays': WHATEVER THE INPUT: true; the input reads as it did. -/
def hatPlaysSpec : ChangeSpec := { name := "hatPlays", fn := fun _ => fun
  | [d1, d2, d3] => { results := [.lit (.bool true)], args := [d1, d2, d3] }
  | _ => none }
def hatPlaysRow : OpenClaim := { program := "ytjhgingmbklhaaa", sum := "9c0a63851c9fe1c4ccf6cd729149029789f98a3084b6b943958a6aa9ab1514d0", func := "aigrette/aigrettelaw10.HatPlays", spec := "hatPlays", unfollowed := true, recurses := true, apart := false }
def HatPlaysSaid : Prop := hatPlaysRow.holds Try.pinned (OpenSpec.ofChange hatPlaysSpec)

/-- ITS FALSE NEIGHBOUR: 'it returns false'. Refute it at one input. -/
def hatPlaysWrong : ChangeSpec := { name := "hatPlays", fn := fun _ => fun
  | [d1, d2, d3] => { results := [.lit (.bool false)], args := [d1, d2, d3] }
  | _ => none }
def HatPlaysWrongFalsely : Prop := hatPlaysRow.holds Try.pinned (OpenSpec.ofChange hatPlaysWrong)

/-- 'aigrettelaw10.HatCodes': WHATEVER THE INPUT: true; the input reads as it did. -/
def hatCodesSpec : ChangeSpec := { name := "hatCodes", fn := fun _ => fun
  | [d1, d2] => { results := [.lit (.bool true)], args := [d1, d2] }
  | _ => none }
def hatCodesRow : OpenClaim := { program := "ytjhgingmbklhaaa", sum := "9c0a63851c9fe1c4ccf6cd729149029789f98a3084b6b943958a6aa9ab1514d0", func := "aigrette/aigrettelaw10.HatCodes", spec := "hatCodes", unfollowed := true, recurses := true, apart := false }
def HatCodesSaid : Prop := hatCodesRow.holds Try.pinned (OpenSpec.ofChange hatCodesSpec)

/-- ITS FALSE NEIGHBOUR: 'it returns false'. Refute it at one input. -/
def hatCodesWrong : ChangeSpec := { name := "hatCodes", fn := fun _ => fun
  | [d1, d2] => { results := [.lit (.bool false)], args := [d1, d2] }
  | _ => none }
def HatCodesWrongFalsely : Prop := hatCodesRow.holds Try.pinned (OpenSpec.ofChange hatCodesWrong)

/-- 'aigrettelaw10.HatPerfect': WHATEVER THE INPUT: true; the input reads as it did. -/
def hatPerfectSpec : ChangeSpec := { name := "hatPerfect", fn := fun _ => fun
  | [d1, d2] => { results := [.lit (.bool true)], args := [d1, d2] }
  | _ => none }
def hatPerfectRow : OpenClaim := { program := "ytjhgingmbklhaaa", sum := "9c0a63851c9fe1c4ccf6cd729149029789f98a3084b6b943958a6aa9ab1514d0", func := "aigrette/aigrettelaw10.HatPerfect", spec := "hatPerfect", unfollowed := true, recurses := true, apart := false }
def HatPerfectSaid : Prop := hatPerfectRow.holds Try.pinned (OpenSpec.ofChange hatPerfectSpec)

/-- ITS FALSE NEIGHBOUR: 'it returns false'. Refute it at one input. -/
def hatPerfectWrong : ChangeSpec := { name := "hatPerfect", fn := fun _ => fun
  | [d1, d2] => { results := [.lit (.bool false)], args := [d1, d2] }
  | _ => none }
def HatPerfectWrongFalsely : Prop := hatPerfectRow.holds Try.pinned (OpenSpec.ofChange hatPerfectWrong)

/-- 'aigrettelaw10.HatLost': WHATEVER THE INPUT: true; the input reads as it did. -/
def hatLostSpec : ChangeSpec := { name := "hatLost", fn := fun _ => fun
  | [d] => { results := [.lit (.bool true)], args := [d] }
  | _ => none }
def hatLostRow : OpenClaim := { program := "ytjhgingmbklhaaa", sum := "9c0a63851c9fe1c4ccf6cd729149029789f98a3084b6b943958a6aa9ab1514d0", func := "aigrette/aigrettelaw10.HatLost", spec := "hatLost", unfollowed := true, recurses := true, apart := false }
def HatLostSaid : Prop := hatLostRow.holds Try.pinned (OpenSpec.ofChange hatLostSpec)

/-- ITS FALSE NEIGHBOUR: 'it returns false'. Refute it at one input. -/
def hatLostWrong : ChangeSpec := { name := "hatLost", fn := fun _ => fun
  | [d] => { results := [.lit (.bool false)], args := [d] }
  | _ => none }
def HatLostWrongFalsely : Prop := hatLostRow.holds Try.pinned (OpenSpec.ofChange hatLostWrong)

/-- 'aigrettelaw10.HatCover': WHATEVER THE INPUT: true; the input reads as it did. -/
def hatCoverSpec : ChangeSpec := { name := "hatCover", fn := fun _ => fun
  | [d1, d2] => { results := [.lit (.bool true)], args := [d1, d2] }
  | _ => none }
def hatCoverRow : OpenClaim := { program := "ytjhgingmbklhaaa", sum := "9c0a63851c9fe1c4ccf6cd729149029789f98a3084b6b943958a6aa9ab1514d0", func := "aigrette/aigrettelaw10.HatCover", spec := "hatCover", unfollowed := true, recurses := true, apart := false }
def HatCoverSaid : Prop := hatCoverRow.holds Try.pinned (OpenSpec.ofChange hatCoverSpec)

/-- ITS FALSE NEIGHBOUR: 'it returns false'. Refute it at one input. -/
def hatCoverWrong : ChangeSpec := { name := "hatCover", fn := fun _ => fun
  | [d1, d2] => { results := [.lit (.bool false)], args := [d1, d2] }
  | _ => none }
def HatCoverWrongFalsely : Prop := hatCoverRow.holds Try.pinned (OpenSpec.ofChange hatCoverWrong)

/-- 'aigrettelaw10.HatSmallest': WHATEVER THE INPUT: true; the input reads as it did. -/
def hatSmallestSpec : ChangeSpec := { name := "hatSmallest", fn := fun _ => fun
  | [d] => { results := [.lit (.bool true)], args := [d] }
  | _ => none }
def hatSmallestRow : OpenClaim := { program := "ytjhgingmbklhaaa", sum := "9c0a63851c9fe1c4ccf6cd729149029789f98a3084b6b943958a6aa9ab1514d0", func := "aigrette/aigrettelaw10.HatSmallest", spec := "hatSmallest", unfollowed := true, recurses := true, apart := false }
def HatSmallestSaid : Prop := hatSmallestRow.holds Try.pinned (OpenSpec.ofChange hatSmallestSpec)

/-- ITS FALSE NEIGHBOUR: 'it returns false'. Refute it at one input. -/
def hatSmallestWrong : ChangeSpec := { name := "hatSmallest", fn := fun _ => fun
  | [d] => { results := [.lit (.bool false)], args := [d] }
  | _ => none }
def HatSmallestWrongFalsely : Prop := hatSmallestRow.holds Try.pinned (OpenSpec.ofChange hatSmallestWrong)

/-- 'aigrettelaw10.HatRight': WHATEVER THE INPUT: true; the input reads as it did. -/
def hatRightSpec : ChangeSpec := { name := "hatRight", fn := fun _ => fun
  | [d] => { results := [.lit (.bool true)], args := [d] }
  | _ => none }
def hatRightRow : OpenClaim := { program := "ytjhgingmbklhaaa", sum := "9c0a63851c9fe1c4ccf6cd729149029789f98a3084b6b943958a6aa9ab1514d0", func := "aigrette/aigrettelaw10.HatRight", spec := "hatRight", unfollowed := true, recurses := true, apart := false }
def HatRightSaid : Prop := hatRightRow.holds Try.pinned (OpenSpec.ofChange hatRightSpec)

/-- ITS FALSE NEIGHBOUR: 'it returns false'. Refute it at one input. -/
def hatRightWrong : ChangeSpec := { name := "hatRight", fn := fun _ => fun
  | [d] => { results := [.lit (.bool false)], args := [d] }
  | _ => none }
def HatRightWrongFalsely : Prop := hatRightRow.holds Try.pinned (OpenSpec.ofChange hatRightWrong)

/-- 'aigrettelaw10.HatHamming': WHATEVER THE INPUT: true; the input reads as it did. -/
def hatHammingSpec : ChangeSpec := { name := "hatHamming", fn := fun _ => fun
  | [d1, d2, d3] => { results := [.lit (.bool true)], args := [d1, d2, d3] }
  | _ => none }
def hatHammingRow : OpenClaim := { program := "ytjhgingmbklhaaa", sum := "9c0a63851c9fe1c4ccf6cd729149029789f98a3084b6b943958a6aa9ab1514d0", func := "aigrette/aigrettelaw10.HatHamming", spec := "hatHamming", unfollowed := true, recurses := true, apart := false }
def HatHammingSaid : Prop := hatHammingRow.holds Try.pinned (OpenSpec.ofChange hatHammingSpec)

/-- ITS FALSE NEIGHBOUR: 'it returns false'. Refute it at one input. -/
def hatHammingWrong : ChangeSpec := { name := "hatHamming", fn := fun _ => fun
  | [d1, d2, d3] => { results := [.lit (.bool false)], args := [d1, d2, d3] }
  | _ => none }
def HatHammingWrongFalsely : Prop := hatHammingRow.holds Try.pinned (OpenSpec.ofChange hatHammingWrong)

/-- 'aigrettelaw10.HatNamed': WHATEVER THE INPUT: true; the input reads as it did. -/
def hatNamedSpec : ChangeSpec := { name := "hatNamed", fn := fun _ => fun
  | [d1, d2, d3] => { results := [.lit (.bool true)], args := [d1, d2, d3] }
  | _ => none }
def hatNamedRow : OpenClaim := { program := "ytjhgingmbklhaaa", sum := "9c0a63851c9fe1c4ccf6cd729149029789f98a3084b6b943958a6aa9ab1514d0", func := "aigrette/aigrettelaw10.HatNamed", spec := "hatNamed", unfollowed := true, recurses := true, apart := false }
def HatNamedSaid : Prop := hatNamedRow.holds Try.pinned (OpenSpec.ofChange hatNamedSpec)

/-- ITS FALSE NEIGHBOUR: 'it returns false'. Refute it at one input. -/
def hatNamedWrong : ChangeSpec := { name := "hatNamed", fn := fun _ => fun
  | [d1, d2, d3] => { results := [.lit (.bool false)], args := [d1, d2, d3] }
  | _ => none }
def HatNamedWrongFalsely : Prop := hatNamedRow.holds Try.pinned (OpenSpec.ofChange hatNamedWrong)

/-- 'aigrettelaw10.HatMore': WHATEVER THE INPUT: true; the input reads as it did. -/
def hatMoreSpec : ChangeSpec := { name := "hatMore", fn := fun _ => fun
  | [d1, d2, d3] => { results := [.lit (.bool true)], args := [d1, d2, d3] }
  | _ => none }
def hatMoreRow : OpenClaim := { program := "ytjhgingmbklhaaa", sum := "9c0a63851c9fe1c4ccf6cd729149029789f98a3084b6b943958a6aa9ab1514d0", func := "aigrette/aigrettelaw10.HatMore", spec := "hatMore", unfollowed := true, recurses := true, apart := false }
def HatMoreSaid : Prop := hatMoreRow.holds Try.pinned (OpenSpec.ofChange hatMoreSpec)

/-- ITS FALSE NEIGHBOUR: 'it returns false'. Refute it at one input. -/
def hatMoreWrong : ChangeSpec := { name := "hatMore", fn := fun _ => fun
  | [d1, d2, d3] => { results := [.lit (.bool false)], args := [d1, d2, d3] }
  | _ => none }
def HatMoreWrongFalsely : Prop := hatMoreRow.holds Try.pinned (OpenSpec.ofChange hatMoreWrong)

/-- 'aigrettelaw10.HatKnown': WHATEVER THE INPUT: true; the input reads as it did. -/
def hatKnownSpec : ChangeSpec := { name := "hatKnown", fn := fun _ => fun
  | [] => { results := [.lit (.bool true)], args := [] }
  | _ => none }
def hatKnownRow : OpenClaim := { program := "ytjhgingmbklhaaa", sum := "9c0a63851c9fe1c4ccf6cd729149029789f98a3084b6b943958a6aa9ab1514d0", func := "aigrette/aigrettelaw10.HatKnown", spec := "hatKnown", unfollowed := true, recurses := true, apart := false }
def HatKnownSaid : Prop := hatKnownRow.holds Try.pinned (OpenSpec.ofChange hatKnownSpec)

/-- ITS FALSE NEIGHBOUR: 'it returns false'. Refute it at one input. -/
def hatKnownWrong : ChangeSpec := { name := "hatKnown", fn := fun _ => fun
  | [] => { results := [.lit (.bool false)], args := [] }
  | _ => none }
def HatKnownWrongFalsely : Prop := hatKnownRow.holds Try.pinned (OpenSpec.ofChange hatKnownWrong)

/- THE SECOND FORM. 'bulk': how many values and letters a reading holds, each counted each time it is reached (what is shared counts as often as it is met; a slice's spare places count too). A statement '..UptoSaid' is the law's where the arguments, and the package variables that the reading takes, are together of bulk at most 1048576: NARROWER than '..Said'. Prove '..Said' where nothing that the law and all that it calls make is longer than what came in: it says more and counts as full. Else prove '..UptoSaid'. A law counts once. -/
mutual
def uptoBulk {H : Type} : DataW H → Nat
  | .lit (.string bytes) => bytes.length + 1
  | .lit _ => 1
  | .nil => 1
  | .ptr d => uptoBulk d + 1
  | .slice elems spare => uptoBulkAll elems + uptoBulkAll spare + 1
  | .agg parts => uptoBulkAll parts + 1
  | .iface _ d => uptoBulk d + 1
  | .map entries => uptoBulkEntries entries + 1
  | .held _ => 1
def uptoBulkAll {H : Type} : List (DataW H) → Nat
  | [] => 0
  | d :: r => uptoBulk d + uptoBulkAll r
def uptoBulkEntries {H : Type} : List (Lit × DataW H) → Nat
  | [] => 0
  | x :: r => uptoBulkEntry x + uptoBulkEntries r
def uptoBulkEntry {H : Type} : Lit × DataW H → Nat
  | (.string bytes, d) => bytes.length + uptoBulk d + 1
  | (_, d) => uptoBulk d + 1
 end
def uptoSmall : (H : Type) → List (DataW H) → Bool := fun _ ds => decide (uptoBulkAll ds ≤ 1048576)
def OpenSpec.upto (s : _root_.Go.ChangeSpec) : _root_.Go.OpenSpec := { _root_.Go.OpenSpec.ofChange s with cond := some uptoSmall }

/-- 'aigrettelaw10.HatPlays', WHERE WHAT IT READS IS OF BULK AT MOST 1048576: true; the input reads as it did. -/
def hatPlaysUptoRow : OpenClaim := { program := "ytjhgingmbklhaaa", sum := "9c0a63851c9fe1c4ccf6cd729149029789f98a3084b6b943958a6aa9ab1514d0", func := "aigrette/aigrettelaw10.HatPlays", spec := "hatPlays", unfollowed := true, recurses := true, apart := false, narrowed := true }
def HatPlaysUptoSaid : Prop := hatPlaysUptoRow.holds Try.pinned (OpenSpec.upto hatPlaysSpec)

/-- 'aigrettelaw10.HatCodes', WHERE WHAT IT READS IS OF BULK AT MOST 1048576: true; the input reads as it did. -/
def hatCodesUptoRow : OpenClaim := { program := "ytjhgingmbklhaaa", sum := "9c0a63851c9fe1c4ccf6cd729149029789f98a3084b6b943958a6aa9ab1514d0", func := "aigrette/aigrettelaw10.HatCodes", spec := "hatCodes", unfollowed := true, recurses := true, apart := false, narrowed := true }
def HatCodesUptoSaid : Prop := hatCodesUptoRow.holds Try.pinned (OpenSpec.upto hatCodesSpec)

/-- 'aigrettelaw10.HatPerfect', WHERE WHAT IT READS IS OF BULK AT MOST 1048576: true; the input reads as it did. -/
def hatPerfectUptoRow : OpenClaim := { program := "ytjhgingmbklhaaa", sum := "9c0a63851c9fe1c4ccf6cd729149029789f98a3084b6b943958a6aa9ab1514d0", func := "aigrette/aigrettelaw10.HatPerfect", spec := "hatPerfect", unfollowed := true, recurses := true, apart := false, narrowed := true }
def HatPerfectUptoSaid : Prop := hatPerfectUptoRow.holds Try.pinned (OpenSpec.upto hatPerfectSpec)

/-- 'aigrettelaw10.HatLost', WHERE WHAT IT READS IS OF BULK AT MOST 1048576: true; the input reads as it did. -/
def hatLostUptoRow : OpenClaim := { program := "ytjhgingmbklhaaa", sum := "9c0a63851c9fe1c4ccf6cd729149029789f98a3084b6b943958a6aa9ab1514d0", func := "aigrette/aigrettelaw10.HatLost", spec := "hatLost", unfollowed := true, recurses := true, apart := false, narrowed := true }
def HatLostUptoSaid : Prop := hatLostUptoRow.holds Try.pinned (OpenSpec.upto hatLostSpec)

/-- 'aigrettelaw10.HatCover', WHERE WHAT IT READS IS OF BULK AT MOST 1048576: true; the input reads as it did. -/
def hatCoverUptoRow : OpenClaim := { program := "ytjhgingmbklhaaa", sum := "9c0a63851c9fe1c4ccf6cd729149029789f98a3084b6b943958a6aa9ab1514d0", func := "aigrette/aigrettelaw10.HatCover", spec := "hatCover", unfollowed := true, recurses := true, apart := false, narrowed := true }
def HatCoverUptoSaid : Prop := hatCoverUptoRow.holds Try.pinned (OpenSpec.upto hatCoverSpec)

/-- 'aigrettelaw10.HatSmallest', WHERE WHAT IT READS IS OF BULK AT MOST 1048576: true; the input reads as it did. -/
def hatSmallestUptoRow : OpenClaim := { program := "ytjhgingmbklhaaa", sum := "9c0a63851c9fe1c4ccf6cd729149029789f98a3084b6b943958a6aa9ab1514d0", func := "aigrette/aigrettelaw10.HatSmallest", spec := "hatSmallest", unfollowed := true, recurses := true, apart := false, narrowed := true }
def HatSmallestUptoSaid : Prop := hatSmallestUptoRow.holds Try.pinned (OpenSpec.upto hatSmallestSpec)

/-- 'aigrettelaw10.HatRight', WHERE WHAT IT READS IS OF BULK AT MOST 1048576: true; the input reads as it did. -/
def hatRightUptoRow : OpenClaim := { program := "ytjhgingmbklhaaa", sum := "9c0a63851c9fe1c4ccf6cd729149029789f98a3084b6b943958a6aa9ab1514d0", func := "aigrette/aigrettelaw10.HatRight", spec := "hatRight", unfollowed := true, recurses := true, apart := false, narrowed := true }
def HatRightUptoSaid : Prop := hatRightUptoRow.holds Try.pinned (OpenSpec.upto hatRightSpec)

/-- 'aigrettelaw10.HatHamming', WHERE WHAT IT READS IS OF BULK AT MOST 1048576: true; the input reads as it did. -/
def hatHammingUptoRow : OpenClaim := { program := "ytjhgingmbklhaaa", sum := "9c0a63851c9fe1c4ccf6cd729149029789f98a3084b6b943958a6aa9ab1514d0", func := "aigrette/aigrettelaw10.HatHamming", spec := "hatHamming", unfollowed := true, recurses := true, apart := false, narrowed := true }
def HatHammingUptoSaid : Prop := hatHammingUptoRow.holds Try.pinned (OpenSpec.upto hatHammingSpec)

/-- 'aigrettelaw10.HatNamed', WHERE WHAT IT READS IS OF BULK AT MOST 1048576: true; the input reads as it did. -/
def hatNamedUptoRow : OpenClaim := { program := "ytjhgingmbklhaaa", sum := "9c0a63851c9fe1c4ccf6cd729149029789f98a3084b6b943958a6aa9ab1514d0", func := "aigrette/aigrettelaw10.HatNamed", spec := "hatNamed", unfollowed := true, recurses := true, apart := false, narrowed := true }
def HatNamedUptoSaid : Prop := hatNamedUptoRow.holds Try.pinned (OpenSpec.upto hatNamedSpec)

/-- 'aigrettelaw10.HatMore', WHERE WHAT IT READS IS OF BULK AT MOST 1048576: true; the input reads as it did. -/
def hatMoreUptoRow : OpenClaim := { program := "ytjhgingmbklhaaa", sum := "9c0a63851c9fe1c4ccf6cd729149029789f98a3084b6b943958a6aa9ab1514d0", func := "aigrette/aigrettelaw10.HatMore", spec := "hatMore", unfollowed := true, recurses := true, apart := false, narrowed := true }
def HatMoreUptoSaid : Prop := hatMoreUptoRow.holds Try.pinned (OpenSpec.upto hatMoreSpec)

/-- 'aigrettelaw10.HatKnown', WHERE WHAT IT READS IS OF BULK AT MOST 1048576: true; the input reads as it did. -/
def hatKnownUptoRow : OpenClaim := { program := "ytjhgingmbklhaaa", sum := "9c0a63851c9fe1c4ccf6cd729149029789f98a3084b6b943958a6aa9ab1514d0", func := "aigrette/aigrettelaw10.HatKnown", spec := "hatKnown", unfollowed := true, recurses := true, apart := false, narrowed := true }
def HatKnownUptoSaid : Prop := hatKnownUptoRow.holds Try.pinned (OpenSpec.upto hatKnownSpec)

end Rows
end Go.Proofs.Ytjhgingmbklhaaa
