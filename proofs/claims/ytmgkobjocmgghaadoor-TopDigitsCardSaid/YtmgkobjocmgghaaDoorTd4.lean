/- TopDigits: the rest of it, for some of the states. -/
import Derived.Test.YtmgkobjocmgghaaDoorTdA
import Derived.KernelRfl
namespace Go.Proofs.YtmgkobjocmgghaaDoor.Ev
open Go Go.Proofs
theorem td_t2 : (fun el => tdT el 2) = fun _ => true := by kernel_rfl
theorem td_t4 : (fun el => tdT el 4) = fun _ => true := by kernel_rfl
theorem td_t9 : (fun el => tdT el 9) = fun _ => true := by kernel_rfl
theorem td_t10 : (fun el => tdT el 10) = fun _ => true := by kernel_rfl
theorem td_t21 : (fun el => tdT el 21) = fun _ => true := by kernel_rfl
theorem td_t22 : (fun el => tdT el 22) = fun _ => true := by kernel_rfl
theorem td_t27 : (fun el => tdT el 27) = fun _ => true := by kernel_rfl
theorem td_t29 : (fun el => tdT el 29) = fun _ => true := by kernel_rfl
end Go.Proofs.YtmgkobjocmgghaaDoor.Ev
