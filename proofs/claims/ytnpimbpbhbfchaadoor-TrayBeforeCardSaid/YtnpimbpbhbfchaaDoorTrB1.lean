/- TrayBefore: the pieces up to the ninth, for some trays. -/
import Derived.Test.YtnpimbpbhbfchaaDoorTrBa
import Derived.KernelRfl
namespace Go.Proofs.YtnpimbpbhbfchaaDoor.Ev
open Go Go.Proofs
theorem tb5_0 : (fun el y => (List.range 4).map fun i => full9 el y (5, 0 + i)) = fun el y => (List.range 4).map fun i => (true, is9 el y (5, 0 + i)) := by kernel_rfl
theorem tb5_1 : (fun el y => (List.range 4).map fun i => full9 el y (5, 4 + i)) = fun el y => (List.range 4).map fun i => (true, is9 el y (5, 4 + i)) := by kernel_rfl
theorem tb5_2 : (fun el y => (List.range 4).map fun i => full9 el y (5, 8 + i)) = fun el y => (List.range 4).map fun i => (true, is9 el y (5, 8 + i)) := by kernel_rfl
theorem tb5_3 : (fun el y => (List.range 4).map fun i => full9 el y (5, 12 + i)) = fun el y => (List.range 4).map fun i => (true, is9 el y (5, 12 + i)) := by kernel_rfl
end Go.Proofs.YtnpimbpbhbfchaaDoor.Ev
