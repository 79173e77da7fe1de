/- TrayBefore: the pieces up to the ninth, for some trays. -/
import Derived.Test.YtnpimbpbhbfchaaDoorTrBa
import Derived.KernelRfl
namespace Go.Proofs.YtnpimbpbhbfchaaDoor.Ev
open Go Go.Proofs
theorem tb5_8 : (fun el y => (List.range 4).map fun i => full9 el y (5, 32 + i)) = fun el y => (List.range 4).map fun i => (true, is9 el y (5, 32 + i)) := by kernel_rfl
theorem tb5_9 : (fun el y => (List.range 4).map fun i => full9 el y (5, 36 + i)) = fun el y => (List.range 4).map fun i => (true, is9 el y (5, 36 + i)) := by kernel_rfl
theorem tb5_10 : (fun el y => (List.range 4).map fun i => full9 el y (5, 40 + i)) = fun el y => (List.range 4).map fun i => (true, is9 el y (5, 40 + i)) := by kernel_rfl
theorem tb5_11 : (fun el y => (List.range 4).map fun i => full9 el y (5, 44 + i)) = fun el y => (List.range 4).map fun i => (true, is9 el y (5, 44 + i)) := by kernel_rfl
end Go.Proofs.YtnpimbpbhbfchaaDoor.Ev
