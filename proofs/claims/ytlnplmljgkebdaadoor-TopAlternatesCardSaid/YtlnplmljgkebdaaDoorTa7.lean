/- TopAlternates: what is left, for some of the positions. -/
import Derived.Test.YtlnplmljgkebdaaDoorTaA
import Derived.KernelRfl
namespace Go.Proofs.YtlnplmljgkebdaaDoor.Ev
open Go Go.Proofs
theorem pB12 : (fun el => (List.range 16).map (pB el 12)) = fun el => (List.range 16).map fun t => .ok (.tu (.cons (tA (rV (pB el 12 t))) (.cons (tB (rV (pB el 12 t))) .nil))) (rH (pB el 12 t)) (rN (pB el 12 t)) := by kernel_rfl
theorem ta12_0 : (fun el => (List.range 4).all fun i => tlB el 12 (0 + i)) = fun _ => true := by kernel_rfl
theorem ta12_1 : (fun el => (List.range 4).all fun i => tlB el 12 (4 + i)) = fun _ => true := by kernel_rfl
theorem ta12_2 : (fun el => (List.range 4).all fun i => tlB el 12 (8 + i)) = fun _ => true := by kernel_rfl
theorem ta12_3 : (fun el => (List.range 4).all fun i => tlB el 12 (12 + i)) = fun _ => true := by kernel_rfl
theorem pB13 : (fun el => (List.range 16).map (pB el 13)) = fun el => (List.range 16).map fun t => .ok (.tu (.cons (tA (rV (pB el 13 t))) (.cons (tB (rV (pB el 13 t))) .nil))) (rH (pB el 13 t)) (rN (pB el 13 t)) := by kernel_rfl
theorem ta13_0 : (fun el => (List.range 4).all fun i => tlB el 13 (0 + i)) = fun _ => true := by kernel_rfl
theorem ta13_1 : (fun el => (List.range 4).all fun i => tlB el 13 (4 + i)) = fun _ => true := by kernel_rfl
theorem ta13_2 : (fun el => (List.range 4).all fun i => tlB el 13 (8 + i)) = fun _ => true := by kernel_rfl
theorem ta13_3 : (fun el => (List.range 4).all fun i => tlB el 13 (12 + i)) = fun _ => true := by kernel_rfl
end Go.Proofs.YtlnplmljgkebdaaDoor.Ev
