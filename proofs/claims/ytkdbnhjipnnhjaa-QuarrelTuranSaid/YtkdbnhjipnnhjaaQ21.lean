/- The texts TqU4. -/
import Derived.Test.YtkdbnhjipnnhjaaQ17
/- QuarrelTuran: some houses each. -/
namespace Go.Proofs.Ytkdbnhjipnnhjaa.Ev
set_option linter.unusedVariables false
set_option maxRecDepth 100000
open Go Go.Proofs Go.RowKit
theorem u_4_1_1 : chk 4 1 1 = true := by kernel_rfl
theorem u_4_4_2 : chk 4 4 2 = true := by kernel_rfl
theorem u_5_1_1 : chk 5 1 1 = true := by kernel_rfl
theorem u_5_2_1 : chk 5 2 1 = true := by kernel_rfl
theorem u_5_2_5 : chk 5 2 5 = true := by kernel_rfl
theorem u_5_2_7 : chk 5 2 7 = true := by kernel_rfl
theorem u_5_3_2 : chk 5 3 2 = true := by kernel_rfl
theorem u_5_5_2 : chk 5 5 2 = true := by kernel_rfl
end Go.Proofs.Ytkdbnhjipnnhjaa.Ev
