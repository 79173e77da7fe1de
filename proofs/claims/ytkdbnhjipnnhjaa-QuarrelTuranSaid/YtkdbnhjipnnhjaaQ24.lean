/- The texts TqU7. -/
import Derived.Test.YtkdbnhjipnnhjaaQ17
/- QuarrelTuran: some houses each. -/
namespace Go.Proofs.Ytkdbnhjipnnhjaa.Ev
set_option linter.unusedVariables false
set_option maxRecDepth 100000
open Go Go.Proofs Go.RowKit
theorem u_4_2_2 : chk 4 2 2 = true := by kernel_rfl
theorem u_4_4_0 : chk 4 4 0 = true := by kernel_rfl
theorem u_5_1_5 : chk 5 1 5 = true := by kernel_rfl
theorem u_5_2_9 : chk 5 2 9 = true := by kernel_rfl
theorem u_5_3_5 : chk 5 3 5 = true := by kernel_rfl
theorem u_5_3_6 : chk 5 3 6 = true := by kernel_rfl
theorem u_5_4_3 : chk 5 4 3 = true := by kernel_rfl
theorem u_5_5_7 : chk 5 5 7 = true := by kernel_rfl
end Go.Proofs.Ytkdbnhjipnnhjaa.Ev
