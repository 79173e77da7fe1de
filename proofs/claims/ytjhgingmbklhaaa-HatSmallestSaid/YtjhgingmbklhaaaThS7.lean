/- HatSmallest: some of the sets. -/
import Derived.Test.YtjhgingmbklhaaaThSa
namespace Go.Proofs.Ytjhgingmbklhaaa.Ev
set_option maxRecDepth 100000
open Go Go.Proofs
theorem sk403 : ((List.range 119).all fun i => ok (403 + i)) = true := by kernel_rfl
theorem sk19604 : ((List.range 877).all fun i => ok (19604 + i)) = true := by kernel_rfl
theorem sk23592 : ((List.range 853).all fun i => ok (23592 + i)) = true := by kernel_rfl
theorem sk25815 : ((List.range 834).all fun i => ok (25815 + i)) = true := by kernel_rfl
theorem sk27539 : ((List.range 854).all fun i => ok (27539 + i)) = true := by kernel_rfl
theorem sk32528 : ((List.range 352).all fun i => ok (32528 + i)) = true := by kernel_rfl
theorem sk32880 : ((List.range 401).all fun i => ok (32880 + i)) = true := by kernel_rfl
theorem sk34426 : ((List.range 634).all fun i => ok (34426 + i)) = true := by kernel_rfl
theorem sk56832 : ((List.range 752).all fun i => ok (56832 + i)) = true := by kernel_rfl
theorem sk60150 : ((List.range 800).all fun i => ok (60150 + i)) = true := by kernel_rfl
theorem sk62571 : ((List.range 780).all fun i => ok (62571 + i)) = true := by kernel_rfl
theorem sk63351 : ((List.range 788).all fun i => ok (63351 + i)) = true := by kernel_rfl
end Go.Proofs.Ytjhgingmbklhaaa.Ev
