/- TrayChained: what is left, for some of the trays. -/
import Derived.Test.YtnpimbpbhbfchaaDoorTrCa
import Derived.KernelRfl
namespace Go.Proofs.YtnpimbpbhbfchaaDoor.Ev
open Go Go.Proofs
theorem tc5_8 : (fun el => (List.range 4).all fun i => tlB el 5 (32 + i)) = fun _ => true := by kernel_rfl
theorem tc5_9 : (fun el => (List.range 4).all fun i => tlB el 5 (36 + i)) = fun _ => true := by kernel_rfl
theorem tc5_10 : (fun el => (List.range 4).all fun i => tlB el 5 (40 + i)) = fun _ => true := by kernel_rfl
theorem tc5_11 : (fun el => (List.range 4).all fun i => tlB el 5 (44 + i)) = fun _ => true := by kernel_rfl
end Go.Proofs.YtnpimbpbhbfchaaDoor.Ev
