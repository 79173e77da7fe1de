/- TrayBefore: the pieces up to the ninth, for some trays. -/
import Derived.Test.YtnpimbpbhbfchaaDoorTrBa
import Derived.KernelRfl
namespace Go.Proofs.YtnpimbpbhbfchaaDoor.Ev
open Go Go.Proofs
theorem tb5_12 : (fun el y => (List.range 4).map fun i => full9 el y (5, 48 + i)) = fun el y => (List.range 4).map fun i => (true, is9 el y (5, 48 + i)) := by kernel_rfl
theorem tb5_13 : (fun el y => (List.range 4).map fun i => full9 el y (5, 52 + i)) = fun el y => (List.range 4).map fun i => (true, is9 el y (5, 52 + i)) := by kernel_rfl
theorem tb5_14 : (fun el y => (List.range 4).map fun i => full9 el y (5, 56 + i)) = fun el y => (List.range 4).map fun i => (true, is9 el y (5, 56 + i)) := by kernel_rfl
theorem tb5_15 : (fun el y => (List.range 4).map fun i => full9 el y (5, 60 + i)) = fun el y => (List.range 4).map fun i => (true, is9 el y (5, 60 + i)) := by kernel_rfl
end Go.Proofs.YtnpimbpbhbfchaaDoor.Ev
