/- TrayChained: what is left, for some of the trays. -/
import Derived.Test.YtnpimbpbhbfchaaDoorTrCa
import Derived.KernelRfl
namespace Go.Proofs.YtnpimbpbhbfchaaDoor.Ev
open Go Go.Proofs
theorem tc5_0 : (fun el => (List.range 4).all fun i => tlB el 5 (0 + i)) = fun _ => true := by kernel_rfl
theorem tc5_1 : (fun el => (List.range 4).all fun i => tlB el 5 (4 + i)) = fun _ => true := by kernel_rfl
theorem tc5_2 : (fun el => (List.range 4).all fun i => tlB el 5 (8 + i)) = fun _ => true := by kernel_rfl
theorem tc5_3 : (fun el => (List.range 4).all fun i => tlB el 5 (12 + i)) = fun _ => true := by kernel_rfl
end Go.Proofs.YtnpimbpbhbfchaaDoor.Ev
