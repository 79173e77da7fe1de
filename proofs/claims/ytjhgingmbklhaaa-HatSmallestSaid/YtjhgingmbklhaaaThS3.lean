/- HatSmallest: some of the sets. -/
import Derived.Test.YtjhgingmbklhaaaThSa
namespace Go.Proofs.Ytjhgingmbklhaaa.Ev
set_option maxRecDepth 100000
open Go Go.Proofs
theorem sk522 : ((List.range 127).all fun i => ok (522 + i)) = true := by kernel_rfl
theorem sk649 : ((List.range 168).all fun i => ok (649 + i)) = true := by kernel_rfl
theorem sk2589 : ((List.range 542).all fun i => ok (2589 + i)) = true := by kernel_rfl
theorem sk4618 : ((List.range 535).all fun i => ok (4618 + i)) = true := by kernel_rfl
theorem sk5153 : ((List.range 674).all fun i => ok (5153 + i)) = true := by kernel_rfl
theorem sk9289 : ((List.range 747).all fun i => ok (9289 + i)) = true := by kernel_rfl
theorem sk15435 : ((List.range 847).all fun i => ok (15435 + i)) = true := by kernel_rfl
theorem sk26649 : ((List.range 890).all fun i => ok (26649 + i)) = true := by kernel_rfl
theorem sk41228 : ((List.range 794).all fun i => ok (41228 + i)) = true := by kernel_rfl
theorem sk42022 : ((List.range 895).all fun i => ok (42022 + i)) = true := by kernel_rfl
theorem sk50974 : ((List.range 833).all fun i => ok (50974 + i)) = true := by kernel_rfl
theorem sk52677 : ((List.range 787).all fun i => ok (52677 + i)) = true := by kernel_rfl
theorem sk64888 : ((List.range 648).all fun i => ok (64888 + i)) = true := by kernel_rfl
end Go.Proofs.Ytjhgingmbklhaaa.Ev
