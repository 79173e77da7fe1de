/- The texts TqV2. -/
import Derived.Test.YtkdbnhjipnnhjaaQ8
/- The largest brawl of each house of five people: evaluated. -/
namespace Go.Proofs.Ytkdbnhjipnnhjaa.Ev
set_option linter.unusedVariables false
set_option maxRecDepth 100000
open Go Go.Proofs Go.RowKit
theorem rq_4 : ((List.range 32).all fun j => rl (j + 128)) = true := by kernel_rfl
theorem rq_5 : ((List.range 32).all fun j => rl (j + 160)) = true := by kernel_rfl
theorem rq_6 : ((List.range 32).all fun j => rl (j + 192)) = true := by kernel_rfl
theorem rq_7 : ((List.range 32).all fun j => rl (j + 224)) = true := by kernel_rfl
end Go.Proofs.Ytkdbnhjipnnhjaa.Ev
