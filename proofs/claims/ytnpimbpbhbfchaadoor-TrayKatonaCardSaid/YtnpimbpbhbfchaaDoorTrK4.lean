/- TrayKatona: what is left, for some of the numbers. -/
import Derived.Test.YtnpimbpbhbfchaaDoorTrKa
import Derived.KernelRfl
namespace Go.Proofs.YtnpimbpbhbfchaaDoor.Ev
open Go Go.Proofs
theorem tk4_3_0 : (fun el z => tlB el z 4 3 0) = fun _ _ => true := by kernel_rfl
theorem tk4_3_1 : (fun el z => tlB el z 4 3 1) = fun _ _ => true := by kernel_rfl
theorem tk4_3_2 : (fun el z => tlB el z 4 3 2) = fun _ _ => true := by kernel_rfl
theorem tk4_3_3 : (fun el z => tlB el z 4 3 3) = fun _ _ => true := by kernel_rfl
theorem tk4_3_4 : (fun el z => tlB el z 4 3 4) = fun _ _ => true := by kernel_rfl
end Go.Proofs.YtnpimbpbhbfchaaDoor.Ev
