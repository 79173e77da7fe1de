/- TrayKatona: what is left, for some of the numbers. -/
import Derived.Test.YtnpimbpbhbfchaaDoorTrKa
import Derived.KernelRfl
namespace Go.Proofs.YtnpimbpbhbfchaaDoor.Ev
open Go Go.Proofs
theorem tk4_2_0 : (fun el z => tlB el z 4 2 0) = fun _ _ => true := by kernel_rfl
theorem tk4_2_1 : (fun el z => tlB el z 4 2 1) = fun _ _ => true := by kernel_rfl
theorem tk4_2_2 : (fun el z => tlB el z 4 2 2) = fun _ _ => true := by kernel_rfl
theorem tk4_2_3 : (fun el z => tlB el z 4 2 3) = fun _ _ => true := by kernel_rfl
theorem tk4_2_4 : (fun el z => tlB el z 4 2 4) = fun _ _ => true := by kernel_rfl
end Go.Proofs.YtnpimbpbhbfchaaDoor.Ev
