/- HatSmallest: some of the sets. -/
import Derived.Test.YtjhgingmbklhaaaThSa
namespace Go.Proofs.Ytjhgingmbklhaaa.Ev
set_option maxRecDepth 100000
open Go Go.Proofs
theorem sk1868 : ((List.range 325).all fun i => ok (1868 + i)) = true := by kernel_rfl
theorem sk13727 : ((List.range 830).all fun i => ok (13727 + i)) = true := by kernel_rfl
theorem sk16544 : ((List.range 389).all fun i => ok (16544 + i)) = true := by kernel_rfl
theorem sk16933 : ((List.range 543).all fun i => ok (16933 + i)) = true := by kernel_rfl
theorem sk17476 : ((List.range 737).all fun i => ok (17476 + i)) = true := by kernel_rfl
theorem sk31731 : ((List.range 797).all fun i => ok (31731 + i)) = true := by kernel_rfl
theorem sk35060 : ((List.range 783).all fun i => ok (35060 + i)) = true := by kernel_rfl
theorem sk38094 : ((List.range 835).all fun i => ok (38094 + i)) = true := by kernel_rfl
theorem sk39821 : ((List.range 855).all fun i => ok (39821 + i)) = true := by kernel_rfl
theorem sk43756 : ((List.range 863).all fun i => ok (43756 + i)) = true := by kernel_rfl
theorem sk58462 : ((List.range 843).all fun i => ok (58462 + i)) = true := by kernel_rfl
theorem sk59305 : ((List.range 845).all fun i => ok (59305 + i)) = true := by kernel_rfl
end Go.Proofs.Ytjhgingmbklhaaa.Ev
