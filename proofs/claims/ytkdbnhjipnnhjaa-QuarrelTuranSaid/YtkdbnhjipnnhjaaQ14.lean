/- The texts TqV6. -/
import Derived.Test.YtkdbnhjipnnhjaaQ8
/- The largest brawl of each house of five people: evaluated. -/
namespace Go.Proofs.Ytkdbnhjipnnhjaa.Ev
set_option linter.unusedVariables false
set_option maxRecDepth 100000
open Go Go.Proofs Go.RowKit
theorem rq_20 : ((List.range 32).all fun j => rl (j + 640)) = true := by kernel_rfl
theorem rq_21 : ((List.range 32).all fun j => rl (j + 672)) = true := by kernel_rfl
theorem rq_22 : ((List.range 32).all fun j => rl (j + 704)) = true := by kernel_rfl
theorem rq_23 : ((List.range 32).all fun j => rl (j + 736)) = true := by kernel_rfl
end Go.Proofs.Ytkdbnhjipnnhjaa.Ev
