/- HatSmallest: some of the sets. -/
import Derived.Test.YtjhgingmbklhaaaThSa
namespace Go.Proofs.Ytjhgingmbklhaaa.Ev
set_option maxRecDepth 100000
open Go Go.Proofs
theorem sk1066 : ((List.range 283).all fun i => ok (1066 + i)) = true := by kernel_rfl
theorem sk3131 : ((List.range 710).all fun i => ok (3131 + i)) = true := by kernel_rfl
theorem sk6409 : ((List.range 794).all fun i => ok (6409 + i)) = true := by kernel_rfl
theorem sk7203 : ((List.range 895).all fun i => ok (7203 + i)) = true := by kernel_rfl
theorem sk10625 : ((List.range 812).all fun i => ok (10625 + i)) = true := by kernel_rfl
theorem sk11437 : ((List.range 855).all fun i => ok (11437 + i)) = true := by kernel_rfl
theorem sk25007 : ((List.range 808).all fun i => ok (25007 + i)) = true := by kernel_rfl
theorem sk35843 : ((List.range 873).all fun i => ok (35843 + i)) = true := by kernel_rfl
theorem sk42917 : ((List.range 839).all fun i => ok (42917 + i)) = true := by kernel_rfl
theorem sk47971 : ((List.range 797).all fun i => ok (47971 + i)) = true := by kernel_rfl
theorem sk50127 : ((List.range 847).all fun i => ok (50127 + i)) = true := by kernel_rfl
theorem sk54341 : ((List.range 848).all fun i => ok (54341 + i)) = true := by kernel_rfl
end Go.Proofs.Ytjhgingmbklhaaa.Ev
