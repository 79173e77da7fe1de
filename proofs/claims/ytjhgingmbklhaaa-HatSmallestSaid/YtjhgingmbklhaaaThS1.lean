/- HatSmallest: some of the sets. -/
import Derived.Test.YtjhgingmbklhaaaThSa
namespace Go.Proofs.Ytjhgingmbklhaaa.Ev
set_option maxRecDepth 100000
open Go Go.Proofs
theorem sk3841 : ((List.range 387).all fun i => ok (3841 + i)) = true := by kernel_rfl
theorem sk8098 : ((List.range 256).all fun i => ok (8098 + i)) = true := by kernel_rfl
theorem sk8354 : ((List.range 399).all fun i => ok (8354 + i)) = true := by kernel_rfl
theorem sk10036 : ((List.range 589).all fun i => ok (10036 + i)) = true := by kernel_rfl
theorem sk18213 : ((List.range 590).all fun i => ok (18213 + i)) = true := by kernel_rfl
theorem sk21030 : ((List.range 855).all fun i => ok (21030 + i)) = true := by kernel_rfl
theorem sk28393 : ((List.range 800).all fun i => ok (28393 + i)) = true := by kernel_rfl
theorem sk37286 : ((List.range 808).all fun i => ok (37286 + i)) = true := by kernel_rfl
theorem sk40676 : ((List.range 552).all fun i => ok (40676 + i)) = true := by kernel_rfl
theorem sk48768 : ((List.range 545).all fun i => ok (48768 + i)) = true := by kernel_rfl
theorem sk55189 : ((List.range 846).all fun i => ok (55189 + i)) = true := by kernel_rfl
theorem sk61747 : ((List.range 824).all fun i => ok (61747 + i)) = true := by kernel_rfl
end Go.Proofs.Ytjhgingmbklhaaa.Ev
