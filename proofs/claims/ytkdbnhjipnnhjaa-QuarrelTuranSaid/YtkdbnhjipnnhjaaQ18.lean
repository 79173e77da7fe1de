/- The texts TqU1. -/
import Derived.Test.YtkdbnhjipnnhjaaQ17
/- QuarrelTuran: some houses each. -/
namespace Go.Proofs.Ytkdbnhjipnnhjaa.Ev
set_option linter.unusedVariables false
set_option maxRecDepth 100000
open Go Go.Proofs Go.RowKit
theorem u_4_2_1 : chk 4 2 1 = true := by kernel_rfl
theorem u_5_1_2 : chk 5 1 2 = true := by kernel_rfl
theorem u_5_1_9 : chk 5 1 9 = true := by kernel_rfl
theorem u_5_2_2 : chk 5 2 2 = true := by kernel_rfl
theorem u_5_3_3 : chk 5 3 3 = true := by kernel_rfl
theorem u_5_3_8 : chk 5 3 8 = true := by kernel_rfl
theorem u_5_5_3 : chk 5 5 3 = true := by kernel_rfl
end Go.Proofs.Ytkdbnhjipnnhjaa.Ev
