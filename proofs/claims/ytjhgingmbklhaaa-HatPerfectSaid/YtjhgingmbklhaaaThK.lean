/- The examples of chapter 10, evaluated. -/
import Derived.Test.YtjhgingmbklhaaaThB
namespace Go.Proofs.Ytjhgingmbklhaaa.Ev
set_option linter.unusedVariables false
set_option maxRecDepth 100000
open Go Go.Proofs Go.RowKit
theorem works_eval : isX (.b true) (EB 60 15 .nil 256 .lf 256) = true := by kernel_rfl
/-- With works() answered, too. -/
noncomputable def W4 (G : FF) : FF := ovF 15 (spE .nil (.b true)) (W3 G)
noncomputable def EW (d : Nat) : FF := EQ W4 d
theorem W4_mono (G : FF) (h : G.mono) : (W4 G).mono := ovF_mono (spE_mo _ _) (W3_mono G h)
theorem W4_ok (G : FF) (h : FOK Try.prog G) : FOK Try.prog (W4 G) := ovF_ok (spE_ok (EB_ok 60) works_eval rfl rfl) (W3_ok G h)
theorem EW_ok (d : Nat) : FOK Try.prog (EW d) := EQ_ok W4_mono W4_ok d
theorem EW_mono (d : Nat) : (EW d).mono := EQ_mono W4_mono d
end Go.Proofs.Ytjhgingmbklhaaa.Ev
