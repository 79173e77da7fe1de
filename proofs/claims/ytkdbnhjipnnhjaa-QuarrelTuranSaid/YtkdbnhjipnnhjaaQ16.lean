/- The texts TqV8. -/
import Derived.Test.YtkdbnhjipnnhjaaQ8
/- The largest brawl of each house of five people: evaluated. -/
namespace Go.Proofs.Ytkdbnhjipnnhjaa.Ev
set_option linter.unusedVariables false
set_option maxRecDepth 100000
open Go Go.Proofs Go.RowKit
theorem rq_28 : ((List.range 32).all fun j => rl (j + 896)) = true := by kernel_rfl
theorem rq_29 : ((List.range 32).all fun j => rl (j + 928)) = true := by kernel_rfl
theorem rq_30 : ((List.range 32).all fun j => rl (j + 960)) = true := by kernel_rfl
theorem rq_31 : ((List.range 32).all fun j => rl (j + 992)) = true := by kernel_rfl
end Go.Proofs.Ytkdbnhjipnnhjaa.Ev
