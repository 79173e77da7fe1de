/- The texts TqU5. -/
import Derived.Test.YtkdbnhjipnnhjaaQ17
/- QuarrelTuran: some houses each. -/
namespace Go.Proofs.Ytkdbnhjipnnhjaa.Ev
set_option linter.unusedVariables false
set_option maxRecDepth 100000
open Go Go.Proofs Go.RowKit
theorem u_4_1_0 : chk 4 1 0 = true := by kernel_rfl
theorem u_4_1_2 : chk 4 1 2 = true := by kernel_rfl
theorem u_5_1_0 : chk 5 1 0 = true := by kernel_rfl
theorem u_5_1_8 : chk 5 1 8 = true := by kernel_rfl
theorem u_5_2_4 : chk 5 2 4 = true := by kernel_rfl
theorem u_5_3_1 : chk 5 3 1 = true := by kernel_rfl
theorem u_5_3_7 : chk 5 3 7 = true := by kernel_rfl
theorem u_5_5_1 : chk 5 5 1 = true := by kernel_rfl
end Go.Proofs.Ytkdbnhjipnnhjaa.Ev
