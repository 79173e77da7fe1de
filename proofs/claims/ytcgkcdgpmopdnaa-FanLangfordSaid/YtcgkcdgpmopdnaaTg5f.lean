/- FanLangford: what is left, for six kinds. -/
import Derived.Test.YtcgkcdgpmopdnaaTgE
namespace Go.Proofs.Ytcgkcdgpmopdnaa.Ev
open Go Go.Proofs
theorem g5f : tm false 5 = true := by kernel_rfl
end Go.Proofs.Ytcgkcdgpmopdnaa.Ev
