/- TrayKatona: what is left, for some of the numbers. -/
import Derived.Test.YtnpimbpbhbfchaaDoorTrKa
import Derived.KernelRfl
namespace Go.Proofs.YtnpimbpbhbfchaaDoor.Ev
open Go Go.Proofs
theorem tk4_3_5 : (fun el z => tlB el z 4 3 5) = fun _ _ => true := by kernel_rfl
theorem tk4_3_6 : (fun el z => tlB el z 4 3 6) = fun _ _ => true := by kernel_rfl
end Go.Proofs.YtnpimbpbhbfchaaDoor.Ev
