/- TrayChained: what is left, for some of the trays. -/
import Derived.Test.YtnpimbpbhbfchaaDoorTrCa
import Derived.KernelRfl
namespace Go.Proofs.YtnpimbpbhbfchaaDoor.Ev
open Go Go.Proofs
theorem tc5_4 : (fun el => (List.range 4).all fun i => tlB el 5 (16 + i)) = fun _ => true := by kernel_rfl
theorem tc5_5 : (fun el => (List.range 4).all fun i => tlB el 5 (20 + i)) = fun _ => true := by kernel_rfl
theorem tc5_6 : (fun el => (List.range 4).all fun i => tlB el 5 (24 + i)) = fun _ => true := by kernel_rfl
theorem tc5_7 : (fun el => (List.range 4).all fun i => tlB el 5 (28 + i)) = fun _ => true := by kernel_rfl
end Go.Proofs.YtnpimbpbhbfchaaDoor.Ev
