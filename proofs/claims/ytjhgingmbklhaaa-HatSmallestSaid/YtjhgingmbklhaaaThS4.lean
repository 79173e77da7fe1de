/- HatSmallest: some of the sets. -/
import Derived.Test.YtjhgingmbklhaaaThSa
namespace Go.Proofs.Ytjhgingmbklhaaa.Ev
set_option maxRecDepth 100000
open Go Go.Proofs
theorem sk102 : ((List.range 101).all fun i => ok (102 + i)) = true := by kernel_rfl
theorem sk1349 : ((List.range 519).all fun i => ok (1349 + i)) = true := by kernel_rfl
theorem sk4228 : ((List.range 390).all fun i => ok (4228 + i)) = true := by kernel_rfl
theorem sk12292 : ((List.range 573).all fun i => ok (12292 + i)) = true := by kernel_rfl
theorem sk14557 : ((List.range 878).all fun i => ok (14557 + i)) = true := by kernel_rfl
theorem sk21885 : ((List.range 830).all fun i => ok (21885 + i)) = true := by kernel_rfl
theorem sk24445 : ((List.range 562).all fun i => ok (24445 + i)) = true := by kernel_rfl
theorem sk30076 : ((List.range 830).all fun i => ok (30076 + i)) = true := by kernel_rfl
theorem sk30906 : ((List.range 825).all fun i => ok (30906 + i)) = true := by kernel_rfl
theorem sk44619 : ((List.range 796).all fun i => ok (44619 + i)) = true := by kernel_rfl
theorem sk51807 : ((List.range 870).all fun i => ok (51807 + i)) = true := by kernel_rfl
theorem sk56035 : ((List.range 797).all fun i => ok (56035 + i)) = true := by kernel_rfl
theorem sk57584 : ((List.range 878).all fun i => ok (57584 + i)) = true := by kernel_rfl
end Go.Proofs.Ytjhgingmbklhaaa.Ev
