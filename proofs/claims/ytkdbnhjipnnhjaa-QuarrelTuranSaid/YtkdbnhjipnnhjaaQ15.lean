/- The texts TqV7. -/
import Derived.Test.YtkdbnhjipnnhjaaQ8
/- The largest brawl of each house of five people: evaluated. -/
namespace Go.Proofs.Ytkdbnhjipnnhjaa.Ev
set_option linter.unusedVariables false
set_option maxRecDepth 100000
open Go Go.Proofs Go.RowKit
theorem rq_24 : ((List.range 32).all fun j => rl (j + 768)) = true := by kernel_rfl
theorem rq_25 : ((List.range 32).all fun j => rl (j + 800)) = true := by kernel_rfl
theorem rq_26 : ((List.range 32).all fun j => rl (j + 832)) = true := by kernel_rfl
theorem rq_27 : ((List.range 32).all fun j => rl (j + 864)) = true := by kernel_rfl
end Go.Proofs.Ytkdbnhjipnnhjaa.Ev
