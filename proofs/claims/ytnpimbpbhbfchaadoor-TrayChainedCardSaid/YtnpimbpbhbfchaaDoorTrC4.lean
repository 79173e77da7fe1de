/- TrayChained: what is left, for some of the trays. -/
import Derived.Test.YtnpimbpbhbfchaaDoorTrCa
import Derived.KernelRfl
namespace Go.Proofs.YtnpimbpbhbfchaaDoor.Ev
open Go Go.Proofs
theorem tc5_12 : (fun el => (List.range 4).all fun i => tlB el 5 (48 + i)) = fun _ => true := by kernel_rfl
theorem tc5_13 : (fun el => (List.range 4).all fun i => tlB el 5 (52 + i)) = fun _ => true := by kernel_rfl
theorem tc5_14 : (fun el => (List.range 4).all fun i => tlB el 5 (56 + i)) = fun _ => true := by kernel_rfl
theorem tc5_15 : (fun el => (List.range 4).all fun i => tlB el 5 (60 + i)) = fun _ => true := by kernel_rfl
end Go.Proofs.YtnpimbpbhbfchaaDoor.Ev
