/- TopAlternates: what is left, for some of the positions. -/
import Derived.Test.YtlnplmljgkebdaaDoorTaA
import Derived.KernelRfl
namespace Go.Proofs.YtlnplmljgkebdaaDoor.Ev
open Go Go.Proofs
theorem pB0 : (fun el => (List.range 16).map (pB el 0)) = fun el => (List.range 16).map fun t => .ok (.tu (.cons (tA (rV (pB el 0 t))) (.cons (tB (rV (pB el 0 t))) .nil))) (rH (pB el 0 t)) (rN (pB el 0 t)) := by kernel_rfl
theorem ta0_0 : (fun el => (List.range 4).all fun i => tlB el 0 (0 + i)) = fun _ => true := by kernel_rfl
theorem ta0_1 : (fun el => (List.range 4).all fun i => tlB el 0 (4 + i)) = fun _ => true := by kernel_rfl
theorem ta0_2 : (fun el => (List.range 4).all fun i => tlB el 0 (8 + i)) = fun _ => true := by kernel_rfl
theorem ta0_3 : (fun el => (List.range 4).all fun i => tlB el 0 (12 + i)) = fun _ => true := by kernel_rfl
theorem pB1 : (fun el => (List.range 16).map (pB el 1)) = fun el => (List.range 16).map fun t => .ok (.tu (.cons (tA (rV (pB el 1 t))) (.cons (tB (rV (pB el 1 t))) .nil))) (rH (pB el 1 t)) (rN (pB el 1 t)) := by kernel_rfl
theorem ta1_0 : (fun el => (List.range 4).all fun i => tlB el 1 (0 + i)) = fun _ => true := by kernel_rfl
theorem ta1_1 : (fun el => (List.range 4).all fun i => tlB el 1 (4 + i)) = fun _ => true := by kernel_rfl
theorem ta1_2 : (fun el => (List.range 4).all fun i => tlB el 1 (8 + i)) = fun _ => true := by kernel_rfl
theorem ta1_3 : (fun el => (List.range 4).all fun i => tlB el 1 (12 + i)) = fun _ => true := by kernel_rfl
end Go.Proofs.YtlnplmljgkebdaaDoor.Ev
