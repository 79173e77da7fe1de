/- TopDigits: the rest of it, for some of the states. -/
import Derived.Test.YtmgkobjocmgghaaDoorTdA
import Derived.KernelRfl
namespace Go.Proofs.YtmgkobjocmgghaaDoor.Ev
open Go Go.Proofs
theorem td_t1 : (fun el => tdT el 1) = fun _ => true := by kernel_rfl
theorem td_t6 : (fun el => tdT el 6) = fun _ => true := by kernel_rfl
theorem td_t8 : (fun el => tdT el 8) = fun _ => true := by kernel_rfl
theorem td_t12 : (fun el => tdT el 12) = fun _ => true := by kernel_rfl
theorem td_t19 : (fun el => tdT el 19) = fun _ => true := by kernel_rfl
theorem td_t23 : (fun el => tdT el 23) = fun _ => true := by kernel_rfl
theorem td_t25 : (fun el => tdT el 25) = fun _ => true := by kernel_rfl
theorem td_t30 : (fun el => tdT el 30) = fun _ => true := by kernel_rfl
end Go.Proofs.YtmgkobjocmgghaaDoor.Ev
