/- FanLangford: the completions of an empty fan of six kinds. -/
import Derived.Test.YtcgkcdgpmopdnaaTgC
namespace Go.Proofs.Ytcgkcdgpmopdnaa.Ev
open Go Go.Proofs
theorem d15t : (fun el cap => yc15 true el cap) = fun _ _ => true := by kernel_rfl
theorem d16t : (fun el cap => yc16 true el cap) = fun _ _ => true := by kernel_rfl
theorem d15f : (fun el cap => yc15 false el cap) = fun _ _ => true := by kernel_rfl
theorem d16f : (fun el cap => yc16 false el cap) = fun _ _ => true := by kernel_rfl
end Go.Proofs.Ytcgkcdgpmopdnaa.Ev
