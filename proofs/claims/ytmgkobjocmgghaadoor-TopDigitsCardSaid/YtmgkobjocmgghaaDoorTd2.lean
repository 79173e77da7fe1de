/- TopDigits: the rest of it, for some of the states. -/
import Derived.Test.YtmgkobjocmgghaaDoorTdA
import Derived.KernelRfl
namespace Go.Proofs.YtmgkobjocmgghaaDoor.Ev
open Go Go.Proofs
theorem td_t5 : (fun el => tdT el 5) = fun _ => true := by kernel_rfl
theorem td_t7 : (fun el => tdT el 7) = fun _ => true := by kernel_rfl
theorem td_t14 : (fun el => tdT el 14) = fun _ => true := by kernel_rfl
theorem td_t15 : (fun el => tdT el 15) = fun _ => true := by kernel_rfl
theorem td_t16 : (fun el => tdT el 16) = fun _ => true := by kernel_rfl
theorem td_t17 : (fun el => tdT el 17) = fun _ => true := by kernel_rfl
theorem td_t24 : (fun el => tdT el 24) = fun _ => true := by kernel_rfl
theorem td_t26 : (fun el => tdT el 26) = fun _ => true := by kernel_rfl
end Go.Proofs.YtmgkobjocmgghaaDoor.Ev
