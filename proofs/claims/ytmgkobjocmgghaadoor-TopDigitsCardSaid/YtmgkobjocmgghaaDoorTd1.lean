/- TopDigits: the rest of it, for some of the states. -/
import Derived.Test.YtmgkobjocmgghaaDoorTdA
import Derived.KernelRfl
namespace Go.Proofs.YtmgkobjocmgghaaDoor.Ev
open Go Go.Proofs
theorem td_t0 : (fun el => tdT el 0) = fun _ => true := by kernel_rfl
theorem td_t3 : (fun el => tdT el 3) = fun _ => true := by kernel_rfl
theorem td_t11 : (fun el => tdT el 11) = fun _ => true := by kernel_rfl
theorem td_t13 : (fun el => tdT el 13) = fun _ => true := by kernel_rfl
theorem td_t18 : (fun el => tdT el 18) = fun _ => true := by kernel_rfl
theorem td_t20 : (fun el => tdT el 20) = fun _ => true := by kernel_rfl
theorem td_t28 : (fun el => tdT el 28) = fun _ => true := by kernel_rfl
theorem td_t31 : (fun el => tdT el 31) = fun _ => true := by kernel_rfl
end Go.Proofs.YtmgkobjocmgghaaDoor.Ev
