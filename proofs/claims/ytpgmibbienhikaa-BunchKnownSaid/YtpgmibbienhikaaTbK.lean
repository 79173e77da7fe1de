/- The examples of chapter 9, evaluated. -/
import Derived.Test.YtpgmibbienhikaaTbIq
namespace Go.Proofs.Ytpgmibbienhikaa.Ev
set_option linter.unusedVariables false
open Go Go.Proofs Go.RowKit
theorem known_eval : okR (EF 120 14 .nil (gK + 1) .lf (gK + 1)) = true := by kernel_rfl
theorem known_walk (w : World) : Calls Try.prog 14 #[] w fun e w' => e = .returned (.bool true) ∧ Below w.heap.size w w' :=
  ranBF (EF_ok 120) known_eval (vs := []) (fun _ => rfl) w
end Go.Proofs.Ytpgmibbienhikaa.Ev
