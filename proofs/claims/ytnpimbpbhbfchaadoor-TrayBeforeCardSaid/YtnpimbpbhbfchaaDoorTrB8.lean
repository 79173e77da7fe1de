/- TrayBefore: the end, for all pairs of trays. -/
import Derived.Test.YtnpimbpbhbfchaaDoorTrBa
import Derived.KernelRfl
namespace Go.Proofs.YtnpimbpbhbfchaaDoor.Ev
open Go Go.Proofs
theorem te_0 : (fun el => (List.range 4).all fun i => (List.range 64).all fun y => tlB el (0 + i) y) = fun _ => true := by kernel_rfl
theorem te_1 : (fun el => (List.range 4).all fun i => (List.range 64).all fun y => tlB el (4 + i) y) = fun _ => true := by kernel_rfl
theorem te_2 : (fun el => (List.range 4).all fun i => (List.range 64).all fun y => tlB el (8 + i) y) = fun _ => true := by kernel_rfl
theorem te_3 : (fun el => (List.range 4).all fun i => (List.range 64).all fun y => tlB el (12 + i) y) = fun _ => true := by kernel_rfl
theorem te_4 : (fun el => (List.range 4).all fun i => (List.range 64).all fun y => tlB el (16 + i) y) = fun _ => true := by kernel_rfl
theorem te_5 : (fun el => (List.range 4).all fun i => (List.range 64).all fun y => tlB el (20 + i) y) = fun _ => true := by kernel_rfl
theorem te_6 : (fun el => (List.range 4).all fun i => (List.range 64).all fun y => tlB el (24 + i) y) = fun _ => true := by kernel_rfl
theorem te_7 : (fun el => (List.range 4).all fun i => (List.range 64).all fun y => tlB el (28 + i) y) = fun _ => true := by kernel_rfl
theorem te_8 : (fun el => (List.range 4).all fun i => (List.range 64).all fun y => tlB el (32 + i) y) = fun _ => true := by kernel_rfl
theorem te_9 : (fun el => (List.range 4).all fun i => (List.range 64).all fun y => tlB el (36 + i) y) = fun _ => true := by kernel_rfl
theorem te_10 : (fun el => (List.range 4).all fun i => (List.range 64).all fun y => tlB el (40 + i) y) = fun _ => true := by kernel_rfl
theorem te_11 : (fun el => (List.range 4).all fun i => (List.range 64).all fun y => tlB el (44 + i) y) = fun _ => true := by kernel_rfl
theorem te_12 : (fun el => (List.range 4).all fun i => (List.range 64).all fun y => tlB el (48 + i) y) = fun _ => true := by kernel_rfl
theorem te_13 : (fun el => (List.range 4).all fun i => (List.range 64).all fun y => tlB el (52 + i) y) = fun _ => true := by kernel_rfl
theorem te_14 : (fun el => (List.range 4).all fun i => (List.range 64).all fun y => tlB el (56 + i) y) = fun _ => true := by kernel_rfl
theorem te_15 : (fun el => (List.range 4).all fun i => (List.range 64).all fun y => tlB el (60 + i) y) = fun _ => true := by kernel_rfl
end Go.Proofs.YtnpimbpbhbfchaaDoor.Ev
