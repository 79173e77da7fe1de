/- The texts TqU8. -/
import Derived.Test.YtkdbnhjipnnhjaaQ17
/- QuarrelTuran: some houses each. -/
namespace Go.Proofs.Ytkdbnhjipnnhjaa.Ev
set_option linter.unusedVariables false
set_option maxRecDepth 100000
open Go Go.Proofs Go.RowKit
theorem u_4_2_0 : chk 4 2 0 = true := by kernel_rfl
theorem u_5_1_6 : chk 5 1 6 = true := by kernel_rfl
theorem u_5_2_0 : chk 5 2 0 = true := by kernel_rfl
theorem u_5_4_1 : chk 5 4 1 = true := by kernel_rfl
theorem u_5_4_7 : chk 5 4 7 = true := by kernel_rfl
theorem u_5_4_8 : chk 5 4 8 = true := by kernel_rfl
theorem u_5_4_9 : chk 5 4 9 = true := by kernel_rfl
theorem u_5_5_5 : chk 5 5 5 = true := by kernel_rfl
end Go.Proofs.Ytkdbnhjipnnhjaa.Ev
