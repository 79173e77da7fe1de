/- TopAlternates: what is left, for some of the positions. -/
import Derived.Test.YtlnplmljgkebdaaDoorTaA
import Derived.KernelRfl
namespace Go.Proofs.YtlnplmljgkebdaaDoor.Ev
open Go Go.Proofs
theorem pB10 : (fun el => (List.range 16).map (pB el 10)) = fun el => (List.range 16).map fun t => .ok (.tu (.cons (tA (rV (pB el 10 t))) (.cons (tB (rV (pB el 10 t))) .nil))) (rH (pB el 10 t)) (rN (pB el 10 t)) := by kernel_rfl
theorem ta10_0 : (fun el => (List.range 4).all fun i => tlB el 10 (0 + i)) = fun _ => true := by kernel_rfl
theorem ta10_1 : (fun el => (List.range 4).all fun i => tlB el 10 (4 + i)) = fun _ => true := by kernel_rfl
theorem ta10_2 : (fun el => (List.range 4).all fun i => tlB el 10 (8 + i)) = fun _ => true := by kernel_rfl
theorem ta10_3 : (fun el => (List.range 4).all fun i => tlB el 10 (12 + i)) = fun _ => true := by kernel_rfl
theorem pB11 : (fun el => (List.range 16).map (pB el 11)) = fun el => (List.range 16).map fun t => .ok (.tu (.cons (tA (rV (pB el 11 t))) (.cons (tB (rV (pB el 11 t))) .nil))) (rH (pB el 11 t)) (rN (pB el 11 t)) := by kernel_rfl
theorem ta11_0 : (fun el => (List.range 4).all fun i => tlB el 11 (0 + i)) = fun _ => true := by kernel_rfl
theorem ta11_1 : (fun el => (List.range 4).all fun i => tlB el 11 (4 + i)) = fun _ => true := by kernel_rfl
theorem ta11_2 : (fun el => (List.range 4).all fun i => tlB el 11 (8 + i)) = fun _ => true := by kernel_rfl
theorem ta11_3 : (fun el => (List.range 4).all fun i => tlB el 11 (12 + i)) = fun _ => true := by kernel_rfl
end Go.Proofs.YtlnplmljgkebdaaDoor.Ev
