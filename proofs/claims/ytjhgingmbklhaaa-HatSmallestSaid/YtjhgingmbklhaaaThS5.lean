/- HatSmallest: some of the sets. -/
import Derived.Test.YtjhgingmbklhaaaThSa
namespace Go.Proofs.Ytjhgingmbklhaaa.Ev
set_option maxRecDepth 100000
open Go Go.Proofs
theorem sk0 : ((List.range 102).all fun i => ok (0 + i)) = true := by kernel_rfl
theorem sk817 : ((List.range 249).all fun i => ok (817 + i)) = true := by kernel_rfl
theorem sk2193 : ((List.range 396).all fun i => ok (2193 + i)) = true := by kernel_rfl
theorem sk5827 : ((List.range 582).all fun i => ok (5827 + i)) = true := by kernel_rfl
theorem sk12865 : ((List.range 862).all fun i => ok (12865 + i)) = true := by kernel_rfl
theorem sk16282 : ((List.range 262).all fun i => ok (16282 + i)) = true := by kernel_rfl
theorem sk22715 : ((List.range 877).all fun i => ok (22715 + i)) = true := by kernel_rfl
theorem sk33803 : ((List.range 623).all fun i => ok (33803 + i)) = true := by kernel_rfl
theorem sk46294 : ((List.range 814).all fun i => ok (46294 + i)) = true := by kernel_rfl
theorem sk47108 : ((List.range 863).all fun i => ok (47108 + i)) = true := by kernel_rfl
theorem sk60950 : ((List.range 797).all fun i => ok (60950 + i)) = true := by kernel_rfl
theorem sk64139 : ((List.range 749).all fun i => ok (64139 + i)) = true := by kernel_rfl
end Go.Proofs.Ytjhgingmbklhaaa.Ev
