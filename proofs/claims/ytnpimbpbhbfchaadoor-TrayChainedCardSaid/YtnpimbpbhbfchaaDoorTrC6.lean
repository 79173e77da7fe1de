/- TrayChained: what is left, for some of the trays. -/
import Derived.Test.YtnpimbpbhbfchaaDoorTrCa
import Derived.KernelRfl
namespace Go.Proofs.YtnpimbpbhbfchaaDoor.Ev
open Go Go.Proofs
theorem tc3_0 : (fun el => (List.range 4).all fun i => tlB el 3 (0 + i)) = fun _ => true := by kernel_rfl
theorem tc3_1 : (fun el => (List.range 4).all fun i => tlB el 3 (4 + i)) = fun _ => true := by kernel_rfl
theorem tc3_2 : (fun el => (List.range 4).all fun i => tlB el 3 (8 + i)) = fun _ => true := by kernel_rfl
theorem tc3_3 : (fun el => (List.range 4).all fun i => tlB el 3 (12 + i)) = fun _ => true := by kernel_rfl
theorem tc2_0 : (fun el => (List.range 4).all fun i => tlB el 2 (0 + i)) = fun _ => true := by kernel_rfl
theorem tc2_1 : (fun el => (List.range 4).all fun i => tlB el 2 (4 + i)) = fun _ => true := by kernel_rfl
theorem tc1_0 : (fun el => (List.range 4).all fun i => tlB el 1 (0 + i)) = fun _ => true := by kernel_rfl
theorem tc0_0 : (fun el => (List.range 2).all fun i => tlB el 0 (0 + i)) = fun _ => true := by kernel_rfl
end Go.Proofs.YtnpimbpbhbfchaaDoor.Ev
