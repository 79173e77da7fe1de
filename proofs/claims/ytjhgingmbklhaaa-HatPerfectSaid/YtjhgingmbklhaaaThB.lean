/- The search for covering codes of four helpers with less than four elements finds none. -/
import Derived.Test.YtjhgingmbklhaaaThIq
import Derived.Test.YtjhgingmbklhaaaEvPe
namespace Go.Proofs.Ytjhgingmbklhaaa.Ev
set_option linter.unusedVariables false
set_option maxRecDepth 100000
open Go Go.Proofs Go.RowKit
noncomputable def a3 (k : Nat) : L := .cons (.n 4) (.cons .ns (.cons (.n k) .nil))
noncomputable def vN : V := .tu (.cons .ns (.cons (.b false) .nil))
theorem c1 : isX vN (EF 60 103 (a3 1) 256 .lf 256) = true := by kernel_rfl
theorem c2 : isX vN (EF 60 103 (a3 2) 256 .lf 256) = true := by kernel_rfl
theorem c3 : isX vN (EF 60 103 (a3 3) 256 .lf 256) = true := by kernel_rfl
/-- With these answers. -/
noncomputable def W3 (G : FF) : FF := ovF 103 (spE (a3 1) vN) (ovF 103 (spE (a3 2) vN) (ovF 103 (spE (a3 3) vN) G))
noncomputable def EB (d : Nat) : FF := EQ W3 d
theorem W3_mono (G : FF) (h : G.mono) : (W3 G).mono := ovF_mono (spE_mo _ _) (ovF_mono (spE_mo _ _) (ovF_mono (spE_mo _ _) h))
theorem W3_ok (G : FF) (h : FOK Try.prog G) : FOK Try.prog (W3 G) := ovF_ok (spE_ok (EF_ok 60) c1 rfl rfl) (ovF_ok (spE_ok (EF_ok 60) c2 rfl rfl) (ovF_ok (spE_ok (EF_ok 60) c3 rfl rfl) h))
theorem EB_ok (d : Nat) : FOK Try.prog (EB d) := EQ_ok W3_mono W3_ok d
theorem EB_mono (d : Nat) : (EB d).mono := EQ_mono W3_mono d
end Go.Proofs.Ytjhgingmbklhaaa.Ev
