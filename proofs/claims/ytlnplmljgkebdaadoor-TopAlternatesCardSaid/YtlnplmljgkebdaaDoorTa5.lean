/- TopAlternates: what is left, for some of the positions. -/
import Derived.Test.YtlnplmljgkebdaaDoorTaA
import Derived.KernelRfl
namespace Go.Proofs.YtlnplmljgkebdaaDoor.Ev
open Go Go.Proofs
theorem pB8 : (fun el => (List.range 16).map (pB el 8)) = fun el => (List.range 16).map fun t => .ok (.tu (.cons (tA (rV (pB el 8 t))) (.cons (tB (rV (pB el 8 t))) .nil))) (rH (pB el 8 t)) (rN (pB el 8 t)) := by kernel_rfl
theorem ta8_0 : (fun el => (List.range 4).all fun i => tlB el 8 (0 + i)) = fun _ => true := by kernel_rfl
theorem ta8_1 : (fun el => (List.range 4).all fun i => tlB el 8 (4 + i)) = fun _ => true := by kernel_rfl
theorem ta8_2 : (fun el => (List.range 4).all fun i => tlB el 8 (8 + i)) = fun _ => true := by kernel_rfl
theorem ta8_3 : (fun el => (List.range 4).all fun i => tlB el 8 (12 + i)) = fun _ => true := by kernel_rfl
theorem pB9 : (fun el => (List.range 16).map (pB el 9)) = fun el => (List.range 16).map fun t => .ok (.tu (.cons (tA (rV (pB el 9 t))) (.cons (tB (rV (pB el 9 t))) .nil))) (rH (pB el 9 t)) (rN (pB el 9 t)) := by kernel_rfl
theorem ta9_0 : (fun el => (List.range 4).all fun i => tlB el 9 (0 + i)) = fun _ => true := by kernel_rfl
theorem ta9_1 : (fun el => (List.range 4).all fun i => tlB el 9 (4 + i)) = fun _ => true := by kernel_rfl
theorem ta9_2 : (fun el => (List.range 4).all fun i => tlB el 9 (8 + i)) = fun _ => true := by kernel_rfl
theorem ta9_3 : (fun el => (List.range 4).all fun i => tlB el 9 (12 + i)) = fun _ => true := by kernel_rfl
end Go.Proofs.YtlnplmljgkebdaaDoor.Ev
