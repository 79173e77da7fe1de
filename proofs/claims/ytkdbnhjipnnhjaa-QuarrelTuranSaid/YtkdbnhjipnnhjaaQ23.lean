/- The texts TqU6. -/
import Derived.Test.YtkdbnhjipnnhjaaQ17
/- QuarrelTuran: some houses each. -/
namespace Go.Proofs.Ytkdbnhjipnnhjaa.Ev
set_option linter.unusedVariables false
set_option maxRecDepth 100000
open Go Go.Proofs Go.RowKit
theorem u_4_3_2 : chk 4 3 2 = true := by kernel_rfl
theorem u_4_4_1 : chk 4 4 1 = true := by kernel_rfl
theorem u_5_1_7 : chk 5 1 7 = true := by kernel_rfl
theorem u_5_2_6 : chk 5 2 6 = true := by kernel_rfl
theorem u_5_3_0 : chk 5 3 0 = true := by kernel_rfl
theorem u_5_4_6 : chk 5 4 6 = true := by kernel_rfl
theorem u_5_5_0 : chk 5 5 0 = true := by kernel_rfl
theorem u_5_5_8 : chk 5 5 8 = true := by kernel_rfl
end Go.Proofs.Ytkdbnhjipnnhjaa.Ev
