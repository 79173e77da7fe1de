/- The texts TqV5. -/
import Derived.Test.YtkdbnhjipnnhjaaQ8
/- The largest brawl of each house of five people: evaluated. -/
namespace Go.Proofs.Ytkdbnhjipnnhjaa.Ev
set_option linter.unusedVariables false
set_option maxRecDepth 100000
open Go Go.Proofs Go.RowKit
theorem rq_16 : ((List.range 32).all fun j => rl (j + 512)) = true := by kernel_rfl
theorem rq_17 : ((List.range 32).all fun j => rl (j + 544)) = true := by kernel_rfl
theorem rq_18 : ((List.range 32).all fun j => rl (j + 576)) = true := by kernel_rfl
theorem rq_19 : ((List.range 32).all fun j => rl (j + 608)) = true := by kernel_rfl
end Go.Proofs.Ytkdbnhjipnnhjaa.Ev
