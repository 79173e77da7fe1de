/- The examples of chapter 10. -/
import Derived.Test.YtjhgingmbklhaaaThK
namespace Go.Proofs.Ytjhgingmbklhaaa.Ev
set_option linter.unusedVariables false
set_option maxRecDepth 100000
open Go Go.Proofs Go.RowKit
theorem known_eval : okR (EW 60 13 .nil (gK + 1) .lf (gK + 1)) = true := by kernel_rfl
theorem known_walk (w : World) : Calls Try.prog 13 #[] w fun e w' => e = .returned (.bool true) ∧ Below w.heap.size w w' :=
  ranBF (EW_ok 60) known_eval (vs := []) (fun _ => rfl) w
end Go.Proofs.Ytjhgingmbklhaaa.Ev
