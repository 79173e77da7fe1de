/- FanLangford: what is left, for few kinds. -/
import Derived.Test.YtcgkcdgpmopdnaaTgA
namespace Go.Proofs.Ytcgkcdgpmopdnaa.Ev
open Go Go.Proofs
theorem g0t : tl true 0 = true := by kernel_rfl
theorem g0f : tl false 0 = true := by kernel_rfl
theorem g1t : tl true 1 = true := by kernel_rfl
theorem g1f : tl false 1 = true := by kernel_rfl
theorem g2t : tl true 2 = true := by kernel_rfl
theorem g2f : tl false 2 = true := by kernel_rfl
theorem g3t : tl true 3 = true := by kernel_rfl
theorem g3f : tl false 3 = true := by kernel_rfl
theorem g4t : tl true 4 = true := by kernel_rfl
theorem g4f : tl false 4 = true := by kernel_rfl
end Go.Proofs.Ytcgkcdgpmopdnaa.Ev
