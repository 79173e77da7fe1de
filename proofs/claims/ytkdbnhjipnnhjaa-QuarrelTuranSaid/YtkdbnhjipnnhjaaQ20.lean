/- The texts TqU3. -/
import Derived.Test.YtkdbnhjipnnhjaaQ17
/- QuarrelTuran: some houses each. -/
namespace Go.Proofs.Ytkdbnhjipnnhjaa.Ev
set_option linter.unusedVariables false
set_option maxRecDepth 100000
open Go Go.Proofs Go.RowKit
theorem u_4_3_1 : chk 4 3 1 = true := by kernel_rfl
theorem u_5_1_3 : chk 5 1 3 = true := by kernel_rfl
theorem u_5_2_3 : chk 5 2 3 = true := by kernel_rfl
theorem u_5_2_8 : chk 5 2 8 = true := by kernel_rfl
theorem u_5_4_0 : chk 5 4 0 = true := by kernel_rfl
theorem u_5_4_4 : chk 5 4 4 = true := by kernel_rfl
theorem u_5_5_4 : chk 5 5 4 = true := by kernel_rfl
theorem u_5_5_9 : chk 5 5 9 = true := by kernel_rfl
end Go.Proofs.Ytkdbnhjipnnhjaa.Ev
