/- TopAlternates: what is left, for some of the positions. -/
import Derived.Test.YtlnplmljgkebdaaDoorTaA
import Derived.KernelRfl
namespace Go.Proofs.YtlnplmljgkebdaaDoor.Ev
open Go Go.Proofs
theorem pB4 : (fun el => (List.range 16).map (pB el 4)) = fun el => (List.range 16).map fun t => .ok (.tu (.cons (tA (rV (pB el 4 t))) (.cons (tB (rV (pB el 4 t))) .nil))) (rH (pB el 4 t)) (rN (pB el 4 t)) := by kernel_rfl
theorem ta4_0 : (fun el => (List.range 4).all fun i => tlB el 4 (0 + i)) = fun _ => true := by kernel_rfl
theorem ta4_1 : (fun el => (List.range 4).all fun i => tlB el 4 (4 + i)) = fun _ => true := by kernel_rfl
theorem ta4_2 : (fun el => (List.range 4).all fun i => tlB el 4 (8 + i)) = fun _ => true := by kernel_rfl
theorem ta4_3 : (fun el => (List.range 4).all fun i => tlB el 4 (12 + i)) = fun _ => true := by kernel_rfl
theorem pB5 : (fun el => (List.range 16).map (pB el 5)) = fun el => (List.range 16).map fun t => .ok (.tu (.cons (tA (rV (pB el 5 t))) (.cons (tB (rV (pB el 5 t))) .nil))) (rH (pB el 5 t)) (rN (pB el 5 t)) := by kernel_rfl
theorem ta5_0 : (fun el => (List.range 4).all fun i => tlB el 5 (0 + i)) = fun _ => true := by kernel_rfl
theorem ta5_1 : (fun el => (List.range 4).all fun i => tlB el 5 (4 + i)) = fun _ => true := by kernel_rfl
theorem ta5_2 : (fun el => (List.range 4).all fun i => tlB el 5 (8 + i)) = fun _ => true := by kernel_rfl
theorem ta5_3 : (fun el => (List.range 4).all fun i => tlB el 5 (12 + i)) = fun _ => true := by kernel_rfl
end Go.Proofs.YtlnplmljgkebdaaDoor.Ev
