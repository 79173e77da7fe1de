/- TrayBefore: the pieces up to the ninth, for some trays. -/
import Derived.Test.YtnpimbpbhbfchaaDoorTrBa
import Derived.KernelRfl
namespace Go.Proofs.YtnpimbpbhbfchaaDoor.Ev
open Go Go.Proofs
theorem tb5_4 : (fun el y => (List.range 4).map fun i => full9 el y (5, 16 + i)) = fun el y => (List.range 4).map fun i => (true, is9 el y (5, 16 + i)) := by kernel_rfl
theorem tb5_5 : (fun el y => (List.range 4).map fun i => full9 el y (5, 20 + i)) = fun el y => (List.range 4).map fun i => (true, is9 el y (5, 20 + i)) := by kernel_rfl
theorem tb5_6 : (fun el y => (List.range 4).map fun i => full9 el y (5, 24 + i)) = fun el y => (List.range 4).map fun i => (true, is9 el y (5, 24 + i)) := by kernel_rfl
theorem tb5_7 : (fun el y => (List.range 4).map fun i => full9 el y (5, 28 + i)) = fun el y => (List.range 4).map fun i => (true, is9 el y (5, 28 + i)) := by kernel_rfl
end Go.Proofs.YtnpimbpbhbfchaaDoor.Ev
