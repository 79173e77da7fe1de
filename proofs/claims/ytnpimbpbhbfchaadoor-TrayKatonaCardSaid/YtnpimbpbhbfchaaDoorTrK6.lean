/- TrayKatona: what is left, for some of the numbers. -/
import Derived.Test.YtnpimbpbhbfchaaDoorTrKa
import Derived.KernelRfl
namespace Go.Proofs.YtnpimbpbhbfchaaDoor.Ev
open Go Go.Proofs
theorem tk4_3_7 : (fun el z => tlB el z 4 3 7) = fun _ _ => true := by kernel_rfl
theorem tk4_3_8 : (fun el z => tlB el z 4 3 8) = fun _ _ => true := by kernel_rfl
theorem tk4_3_9 : (fun el z => tlB el z 4 3 9) = fun _ _ => true := by kernel_rfl
theorem tk4_3_10 : (fun el z => tlB el z 4 3 10) = fun _ _ => true := by kernel_rfl
end Go.Proofs.YtnpimbpbhbfchaaDoor.Ev
