/- HatPerfect: seven helpers, all colourings. -/
import Derived.Test.YtjhgingmbklhaaaThPi
namespace Go.Proofs.Ytjhgingmbklhaaa.Ev
set_option maxRecDepth 100000
open Go Go.Proofs
theorem ti7_0 : ((List.range 16).all fun c => tin7 (0 + c)) = true := by kernel_rfl
theorem ti7_1 : ((List.range 16).all fun c => tin7 (16 + c)) = true := by kernel_rfl
theorem ti7_2 : ((List.range 16).all fun c => tin7 (32 + c)) = true := by kernel_rfl
theorem ti7_3 : ((List.range 16).all fun c => tin7 (48 + c)) = true := by kernel_rfl
theorem ti7_4 : ((List.range 16).all fun c => tin7 (64 + c)) = true := by kernel_rfl
theorem ti7_5 : ((List.range 16).all fun c => tin7 (80 + c)) = true := by kernel_rfl
theorem ti7_6 : ((List.range 16).all fun c => tin7 (96 + c)) = true := by kernel_rfl
theorem ti7_7 : ((List.range 16).all fun c => tin7 (112 + c)) = true := by kernel_rfl
end Go.Proofs.Ytjhgingmbklhaaa.Ev
