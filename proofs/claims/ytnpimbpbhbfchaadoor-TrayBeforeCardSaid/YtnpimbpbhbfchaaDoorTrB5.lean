/- TrayBefore: the pieces up to the ninth, for some trays. -/
import Derived.Test.YtnpimbpbhbfchaaDoorTrBa
import Derived.KernelRfl
namespace Go.Proofs.YtnpimbpbhbfchaaDoor.Ev
open Go Go.Proofs
theorem tb4_0 : (fun el y => (List.range 4).map fun i => full9 el y (4, 0 + i)) = fun el y => (List.range 4).map fun i => (true, is9 el y (4, 0 + i)) := by kernel_rfl
theorem tb4_1 : (fun el y => (List.range 4).map fun i => full9 el y (4, 4 + i)) = fun el y => (List.range 4).map fun i => (true, is9 el y (4, 4 + i)) := by kernel_rfl
theorem tb4_2 : (fun el y => (List.range 4).map fun i => full9 el y (4, 8 + i)) = fun el y => (List.range 4).map fun i => (true, is9 el y (4, 8 + i)) := by kernel_rfl
theorem tb4_3 : (fun el y => (List.range 4).map fun i => full9 el y (4, 12 + i)) = fun el y => (List.range 4).map fun i => (true, is9 el y (4, 12 + i)) := by kernel_rfl
theorem tb4_4 : (fun el y => (List.range 4).map fun i => full9 el y (4, 16 + i)) = fun el y => (List.range 4).map fun i => (true, is9 el y (4, 16 + i)) := by kernel_rfl
theorem tb4_5 : (fun el y => (List.range 4).map fun i => full9 el y (4, 20 + i)) = fun el y => (List.range 4).map fun i => (true, is9 el y (4, 20 + i)) := by kernel_rfl
theorem tb4_6 : (fun el y => (List.range 4).map fun i => full9 el y (4, 24 + i)) = fun el y => (List.range 4).map fun i => (true, is9 el y (4, 24 + i)) := by kernel_rfl
theorem tb4_7 : (fun el y => (List.range 4).map fun i => full9 el y (4, 28 + i)) = fun el y => (List.range 4).map fun i => (true, is9 el y (4, 28 + i)) := by kernel_rfl
end Go.Proofs.YtnpimbpbhbfchaaDoor.Ev
