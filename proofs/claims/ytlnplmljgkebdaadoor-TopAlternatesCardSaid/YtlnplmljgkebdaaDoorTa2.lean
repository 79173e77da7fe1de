/- TopAlternates: what is left, for some of the positions. -/
import Derived.Test.YtlnplmljgkebdaaDoorTaA
import Derived.KernelRfl
namespace Go.Proofs.YtlnplmljgkebdaaDoor.Ev
open Go Go.Proofs
theorem pB2 : (fun el => (List.range 16).map (pB el 2)) = fun el => (List.range 16).map fun t => .ok (.tu (.cons (tA (rV (pB el 2 t))) (.cons (tB (rV (pB el 2 t))) .nil))) (rH (pB el 2 t)) (rN (pB el 2 t)) := by kernel_rfl
theorem ta2_0 : (fun el => (List.range 4).all fun i => tlB el 2 (0 + i)) = fun _ => true := by kernel_rfl
theorem ta2_1 : (fun el => (List.range 4).all fun i => tlB el 2 (4 + i)) = fun _ => true := by kernel_rfl
theorem ta2_2 : (fun el => (List.range 4).all fun i => tlB el 2 (8 + i)) = fun _ => true := by kernel_rfl
theorem ta2_3 : (fun el => (List.range 4).all fun i => tlB el 2 (12 + i)) = fun _ => true := by kernel_rfl
theorem pB3 : (fun el => (List.range 16).map (pB el 3)) = fun el => (List.range 16).map fun t => .ok (.tu (.cons (tA (rV (pB el 3 t))) (.cons (tB (rV (pB el 3 t))) .nil))) (rH (pB el 3 t)) (rN (pB el 3 t)) := by kernel_rfl
theorem ta3_0 : (fun el => (List.range 4).all fun i => tlB el 3 (0 + i)) = fun _ => true := by kernel_rfl
theorem ta3_1 : (fun el => (List.range 4).all fun i => tlB el 3 (4 + i)) = fun _ => true := by kernel_rfl
theorem ta3_2 : (fun el => (List.range 4).all fun i => tlB el 3 (8 + i)) = fun _ => true := by kernel_rfl
theorem ta3_3 : (fun el => (List.range 4).all fun i => tlB el 3 (12 + i)) = fun _ => true := by kernel_rfl
end Go.Proofs.YtlnplmljgkebdaaDoor.Ev
