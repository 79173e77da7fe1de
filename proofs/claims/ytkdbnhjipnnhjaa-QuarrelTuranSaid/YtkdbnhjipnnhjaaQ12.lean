/- The texts TqV4. -/
import Derived.Test.YtkdbnhjipnnhjaaQ8
/- The largest brawl of each house of five people: evaluated. -/
namespace Go.Proofs.Ytkdbnhjipnnhjaa.Ev
set_option linter.unusedVariables false
set_option maxRecDepth 100000
open Go Go.Proofs Go.RowKit
theorem rq_12 : ((List.range 32).all fun j => rl (j + 384)) = true := by kernel_rfl
theorem rq_13 : ((List.range 32).all fun j => rl (j + 416)) = true := by kernel_rfl
theorem rq_14 : ((List.range 32).all fun j => rl (j + 448)) = true := by kernel_rfl
theorem rq_15 : ((List.range 32).all fun j => rl (j + 480)) = true := by kernel_rfl
end Go.Proofs.Ytkdbnhjipnnhjaa.Ev
