/- Begun fans of seven kinds without a completion: each is tried. -/
import Derived.Test.YtcgkcdgpmopdnaaTgK
namespace Go.Proofs.Ytcgkcdgpmopdnaa.Ev
open Go Go.Proofs
theorem kd2 : (fun el el' => dead2.all fun xs => yd xs el el') = fun _ _ => true := by kernel_rfl
end Go.Proofs.Ytcgkcdgpmopdnaa.Ev
