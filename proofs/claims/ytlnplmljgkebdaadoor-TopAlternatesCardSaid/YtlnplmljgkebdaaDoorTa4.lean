/- TopAlternates: what is left, for some of the positions. -/
import Derived.Test.YtlnplmljgkebdaaDoorTaA
import Derived.KernelRfl
namespace Go.Proofs.YtlnplmljgkebdaaDoor.Ev
open Go Go.Proofs
theorem pB6 : (fun el => (List.range 16).map (pB el 6)) = fun el => (List.range 16).map fun t => .ok (.tu (.cons (tA (rV (pB el 6 t))) (.cons (tB (rV (pB el 6 t))) .nil))) (rH (pB el 6 t)) (rN (pB el 6 t)) := by kernel_rfl
theorem ta6_0 : (fun el => (List.range 4).all fun i => tlB el 6 (0 + i)) = fun _ => true := by kernel_rfl
theorem ta6_1 : (fun el => (List.range 4).all fun i => tlB el 6 (4 + i)) = fun _ => true := by kernel_rfl
theorem ta6_2 : (fun el => (List.range 4).all fun i => tlB el 6 (8 + i)) = fun _ => true := by kernel_rfl
theorem ta6_3 : (fun el => (List.range 4).all fun i => tlB el 6 (12 + i)) = fun _ => true := by kernel_rfl
theorem pB7 : (fun el => (List.range 16).map (pB el 7)) = fun el => (List.range 16).map fun t => .ok (.tu (.cons (tA (rV (pB el 7 t))) (.cons (tB (rV (pB el 7 t))) .nil))) (rH (pB el 7 t)) (rN (pB el 7 t)) := by kernel_rfl
theorem ta7_0 : (fun el => (List.range 4).all fun i => tlB el 7 (0 + i)) = fun _ => true := by kernel_rfl
theorem ta7_1 : (fun el => (List.range 4).all fun i => tlB el 7 (4 + i)) = fun _ => true := by kernel_rfl
theorem ta7_2 : (fun el => (List.range 4).all fun i => tlB el 7 (8 + i)) = fun _ => true := by kernel_rfl
theorem ta7_3 : (fun el => (List.range 4).all fun i => tlB el 7 (12 + i)) = fun _ => true := by kernel_rfl
end Go.Proofs.YtlnplmljgkebdaaDoor.Ev
