/- TrayChained: what is left, for some of the trays. -/
import Derived.Test.YtnpimbpbhbfchaaDoorTrCa
import Derived.KernelRfl
namespace Go.Proofs.YtnpimbpbhbfchaaDoor.Ev
open Go Go.Proofs
theorem tc4_0 : (fun el => (List.range 4).all fun i => tlB el 4 (0 + i)) = fun _ => true := by kernel_rfl
theorem tc4_1 : (fun el => (List.range 4).all fun i => tlB el 4 (4 + i)) = fun _ => true := by kernel_rfl
theorem tc4_2 : (fun el => (List.range 4).all fun i => tlB el 4 (8 + i)) = fun _ => true := by kernel_rfl
theorem tc4_3 : (fun el => (List.range 4).all fun i => tlB el 4 (12 + i)) = fun _ => true := by kernel_rfl
theorem tc4_4 : (fun el => (List.range 4).all fun i => tlB el 4 (16 + i)) = fun _ => true := by kernel_rfl
theorem tc4_5 : (fun el => (List.range 4).all fun i => tlB el 4 (20 + i)) = fun _ => true := by kernel_rfl
theorem tc4_6 : (fun el => (List.range 4).all fun i => tlB el 4 (24 + i)) = fun _ => true := by kernel_rfl
theorem tc4_7 : (fun el => (List.range 4).all fun i => tlB el 4 (28 + i)) = fun _ => true := by kernel_rfl
end Go.Proofs.YtnpimbpbhbfchaaDoor.Ev
