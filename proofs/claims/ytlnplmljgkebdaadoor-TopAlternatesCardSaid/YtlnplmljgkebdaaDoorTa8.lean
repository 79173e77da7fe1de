/- TopAlternates: what is left, for some of the positions. -/
import Derived.Test.YtlnplmljgkebdaaDoorTaA
import Derived.KernelRfl
namespace Go.Proofs.YtlnplmljgkebdaaDoor.Ev
open Go Go.Proofs
theorem pB14 : (fun el => (List.range 16).map (pB el 14)) = fun el => (List.range 16).map fun t => .ok (.tu (.cons (tA (rV (pB el 14 t))) (.cons (tB (rV (pB el 14 t))) .nil))) (rH (pB el 14 t)) (rN (pB el 14 t)) := by kernel_rfl
theorem ta14_0 : (fun el => (List.range 4).all fun i => tlB el 14 (0 + i)) = fun _ => true := by kernel_rfl
theorem ta14_1 : (fun el => (List.range 4).all fun i => tlB el 14 (4 + i)) = fun _ => true := by kernel_rfl
theorem ta14_2 : (fun el => (List.range 4).all fun i => tlB el 14 (8 + i)) = fun _ => true := by kernel_rfl
theorem ta14_3 : (fun el => (List.range 4).all fun i => tlB el 14 (12 + i)) = fun _ => true := by kernel_rfl
theorem pB15 : (fun el => (List.range 16).map (pB el 15)) = fun el => (List.range 16).map fun t => .ok (.tu (.cons (tA (rV (pB el 15 t))) (.cons (tB (rV (pB el 15 t))) .nil))) (rH (pB el 15 t)) (rN (pB el 15 t)) := by kernel_rfl
theorem ta15_0 : (fun el => (List.range 4).all fun i => tlB el 15 (0 + i)) = fun _ => true := by kernel_rfl
theorem ta15_1 : (fun el => (List.range 4).all fun i => tlB el 15 (4 + i)) = fun _ => true := by kernel_rfl
theorem ta15_2 : (fun el => (List.range 4).all fun i => tlB el 15 (8 + i)) = fun _ => true := by kernel_rfl
theorem ta15_3 : (fun el => (List.range 4).all fun i => tlB el 15 (12 + i)) = fun _ => true := by kernel_rfl
end Go.Proofs.YtlnplmljgkebdaaDoor.Ev
