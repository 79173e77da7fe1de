/- The texts TqV3. -/
import Derived.Test.YtkdbnhjipnnhjaaQ8
/- The largest brawl of each house of five people: evaluated. -/
namespace Go.Proofs.Ytkdbnhjipnnhjaa.Ev
set_option linter.unusedVariables false
set_option maxRecDepth 100000
open Go Go.Proofs Go.RowKit
theorem rq_8 : ((List.range 32).all fun j => rl (j + 256)) = true := by kernel_rfl
theorem rq_9 : ((List.range 32).all fun j => rl (j + 288)) = true := by kernel_rfl
theorem rq_10 : ((List.range 32).all fun j => rl (j + 320)) = true := by kernel_rfl
theorem rq_11 : ((List.range 32).all fun j => rl (j + 352)) = true := by kernel_rfl
end Go.Proofs.Ytkdbnhjipnnhjaa.Ev
