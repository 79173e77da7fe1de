/- The texts TqU2. -/
import Derived.Test.YtkdbnhjipnnhjaaQ17
/- QuarrelTuran: some houses each. -/
namespace Go.Proofs.Ytkdbnhjipnnhjaa.Ev
set_option linter.unusedVariables false
set_option maxRecDepth 100000
open Go Go.Proofs Go.RowKit
theorem u_4_3_0 : chk 4 3 0 = true := by kernel_rfl
theorem u_5_1_4 : chk 5 1 4 = true := by kernel_rfl
theorem u_5_3_4 : chk 5 3 4 = true := by kernel_rfl
theorem u_5_3_9 : chk 5 3 9 = true := by kernel_rfl
theorem u_5_4_2 : chk 5 4 2 = true := by kernel_rfl
theorem u_5_4_5 : chk 5 4 5 = true := by kernel_rfl
theorem u_5_5_6 : chk 5 5 6 = true := by kernel_rfl
end Go.Proofs.Ytkdbnhjipnnhjaa.Ev
