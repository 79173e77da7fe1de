/- HatSmallest: some of the sets. -/
import Derived.Test.YtjhgingmbklhaaaThSa
namespace Go.Proofs.Ytjhgingmbklhaaa.Ev
set_option maxRecDepth 100000
open Go Go.Proofs
theorem sk203 : ((List.range 100).all fun i => ok (203 + i)) = true := by kernel_rfl
theorem sk303 : ((List.range 100).all fun i => ok (303 + i)) = true := by kernel_rfl
theorem sk8753 : ((List.range 536).all fun i => ok (8753 + i)) = true := by kernel_rfl
theorem sk18803 : ((List.range 801).all fun i => ok (18803 + i)) = true := by kernel_rfl
theorem sk20481 : ((List.range 549).all fun i => ok (20481 + i)) = true := by kernel_rfl
theorem sk29193 : ((List.range 883).all fun i => ok (29193 + i)) = true := by kernel_rfl
theorem sk33281 : ((List.range 522).all fun i => ok (33281 + i)) = true := by kernel_rfl
theorem sk36716 : ((List.range 570).all fun i => ok (36716 + i)) = true := by kernel_rfl
theorem sk38929 : ((List.range 892).all fun i => ok (38929 + i)) = true := by kernel_rfl
theorem sk45415 : ((List.range 879).all fun i => ok (45415 + i)) = true := by kernel_rfl
theorem sk49313 : ((List.range 814).all fun i => ok (49313 + i)) = true := by kernel_rfl
theorem sk53464 : ((List.range 877).all fun i => ok (53464 + i)) = true := by kernel_rfl
end Go.Proofs.Ytjhgingmbklhaaa.Ev
