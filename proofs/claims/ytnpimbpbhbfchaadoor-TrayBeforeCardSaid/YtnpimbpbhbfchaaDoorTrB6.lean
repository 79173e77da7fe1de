/- TrayBefore: the pieces up to the ninth, for some trays. -/
import Derived.Test.YtnpimbpbhbfchaaDoorTrBa
import Derived.KernelRfl
namespace Go.Proofs.YtnpimbpbhbfchaaDoor.Ev
open Go Go.Proofs
theorem tb3_0 : (fun el y => (List.range 4).map fun i => full9 el y (3, 0 + i)) = fun el y => (List.range 4).map fun i => (true, is9 el y (3, 0 + i)) := by kernel_rfl
theorem tb3_1 : (fun el y => (List.range 4).map fun i => full9 el y (3, 4 + i)) = fun el y => (List.range 4).map fun i => (true, is9 el y (3, 4 + i)) := by kernel_rfl
theorem tb3_2 : (fun el y => (List.range 4).map fun i => full9 el y (3, 8 + i)) = fun el y => (List.range 4).map fun i => (true, is9 el y (3, 8 + i)) := by kernel_rfl
theorem tb3_3 : (fun el y => (List.range 4).map fun i => full9 el y (3, 12 + i)) = fun el y => (List.range 4).map fun i => (true, is9 el y (3, 12 + i)) := by kernel_rfl
theorem tb2_0 : (fun el y => (List.range 4).map fun i => full9 el y (2, 0 + i)) = fun el y => (List.range 4).map fun i => (true, is9 el y (2, 0 + i)) := by kernel_rfl
theorem tb2_1 : (fun el y => (List.range 4).map fun i => full9 el y (2, 4 + i)) = fun el y => (List.range 4).map fun i => (true, is9 el y (2, 4 + i)) := by kernel_rfl
theorem tb1_0 : (fun el y => (List.range 4).map fun i => full9 el y (1, 0 + i)) = fun el y => (List.range 4).map fun i => (true, is9 el y (1, 0 + i)) := by kernel_rfl
theorem tb0_0 : (fun el y => (List.range 2).map fun i => full9 el y (0, 0 + i)) = fun el y => (List.range 2).map fun i => (true, is9 el y (0, 0 + i)) := by kernel_rfl
end Go.Proofs.YtnpimbpbhbfchaaDoor.Ev
