/- The texts TqV1. -/
import Derived.Test.YtkdbnhjipnnhjaaQ8
/- The largest brawl of each house of five people: evaluated. -/
namespace Go.Proofs.Ytkdbnhjipnnhjaa.Ev
set_option linter.unusedVariables false
set_option maxRecDepth 100000
open Go Go.Proofs Go.RowKit
theorem rq_0 : ((List.range 32).all fun j => rl (j + 0)) = true := by kernel_rfl
theorem rq_1 : ((List.range 32).all fun j => rl (j + 32)) = true := by kernel_rfl
theorem rq_2 : ((List.range 32).all fun j => rl (j + 64)) = true := by kernel_rfl
theorem rq_3 : ((List.range 32).all fun j => rl (j + 96)) = true := by kernel_rfl
end Go.Proofs.Ytkdbnhjipnnhjaa.Ev
