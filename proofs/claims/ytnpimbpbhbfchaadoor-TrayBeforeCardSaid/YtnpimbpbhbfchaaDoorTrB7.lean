/- TrayBefore: the tenth piece, for all trays. -/
import Derived.Test.YtnpimbpbhbfchaaDoorTrBa
import Derived.KernelRfl
namespace Go.Proofs.YtnpimbpbhbfchaaDoor.Ev
open Go Go.Proofs
theorem td0_0 : (fun el a b => (List.range 2).map fun i => full10 el a b (0, 0 + i)) = fun el a b => (List.range 2).map fun i => is10 el a b (0, 0 + i) := by kernel_rfl
theorem td1_0 : (fun el a b => (List.range 4).map fun i => full10 el a b (1, 0 + i)) = fun el a b => (List.range 4).map fun i => is10 el a b (1, 0 + i) := by kernel_rfl
theorem td2_0 : (fun el a b => (List.range 4).map fun i => full10 el a b (2, 0 + i)) = fun el a b => (List.range 4).map fun i => is10 el a b (2, 0 + i) := by kernel_rfl
theorem td2_1 : (fun el a b => (List.range 4).map fun i => full10 el a b (2, 4 + i)) = fun el a b => (List.range 4).map fun i => is10 el a b (2, 4 + i) := by kernel_rfl
theorem td3_0 : (fun el a b => (List.range 4).map fun i => full10 el a b (3, 0 + i)) = fun el a b => (List.range 4).map fun i => is10 el a b (3, 0 + i) := by kernel_rfl
theorem td3_1 : (fun el a b => (List.range 4).map fun i => full10 el a b (3, 4 + i)) = fun el a b => (List.range 4).map fun i => is10 el a b (3, 4 + i) := by kernel_rfl
theorem td3_2 : (fun el a b => (List.range 4).map fun i => full10 el a b (3, 8 + i)) = fun el a b => (List.range 4).map fun i => is10 el a b (3, 8 + i) := by kernel_rfl
theorem td3_3 : (fun el a b => (List.range 4).map fun i => full10 el a b (3, 12 + i)) = fun el a b => (List.range 4).map fun i => is10 el a b (3, 12 + i) := by kernel_rfl
theorem td4_0 : (fun el a b => (List.range 4).map fun i => full10 el a b (4, 0 + i)) = fun el a b => (List.range 4).map fun i => is10 el a b (4, 0 + i) := by kernel_rfl
theorem td4_1 : (fun el a b => (List.range 4).map fun i => full10 el a b (4, 4 + i)) = fun el a b => (List.range 4).map fun i => is10 el a b (4, 4 + i) := by kernel_rfl
theorem td4_2 : (fun el a b => (List.range 4).map fun i => full10 el a b (4, 8 + i)) = fun el a b => (List.range 4).map fun i => is10 el a b (4, 8 + i) := by kernel_rfl
theorem td4_3 : (fun el a b => (List.range 4).map fun i => full10 el a b (4, 12 + i)) = fun el a b => (List.range 4).map fun i => is10 el a b (4, 12 + i) := by kernel_rfl
theorem td4_4 : (fun el a b => (List.range 4).map fun i => full10 el a b (4, 16 + i)) = fun el a b => (List.range 4).map fun i => is10 el a b (4, 16 + i) := by kernel_rfl
theorem td4_5 : (fun el a b => (List.range 4).map fun i => full10 el a b (4, 20 + i)) = fun el a b => (List.range 4).map fun i => is10 el a b (4, 20 + i) := by kernel_rfl
theorem td4_6 : (fun el a b => (List.range 4).map fun i => full10 el a b (4, 24 + i)) = fun el a b => (List.range 4).map fun i => is10 el a b (4, 24 + i) := by kernel_rfl
theorem td4_7 : (fun el a b => (List.range 4).map fun i => full10 el a b (4, 28 + i)) = fun el a b => (List.range 4).map fun i => is10 el a b (4, 28 + i) := by kernel_rfl
theorem td5_0 : (fun el a b => (List.range 4).map fun i => full10 el a b (5, 0 + i)) = fun el a b => (List.range 4).map fun i => is10 el a b (5, 0 + i) := by kernel_rfl
theorem td5_1 : (fun el a b => (List.range 4).map fun i => full10 el a b (5, 4 + i)) = fun el a b => (List.range 4).map fun i => is10 el a b (5, 4 + i) := by kernel_rfl
theorem td5_2 : (fun el a b => (List.range 4).map fun i => full10 el a b (5, 8 + i)) = fun el a b => (List.range 4).map fun i => is10 el a b (5, 8 + i) := by kernel_rfl
theorem td5_3 : (fun el a b => (List.range 4).map fun i => full10 el a b (5, 12 + i)) = fun el a b => (List.range 4).map fun i => is10 el a b (5, 12 + i) := by kernel_rfl
theorem td5_4 : (fun el a b => (List.range 4).map fun i => full10 el a b (5, 16 + i)) = fun el a b => (List.range 4).map fun i => is10 el a b (5, 16 + i) := by kernel_rfl
theorem td5_5 : (fun el a b => (List.range 4).map fun i => full10 el a b (5, 20 + i)) = fun el a b => (List.range 4).map fun i => is10 el a b (5, 20 + i) := by kernel_rfl
theorem td5_6 : (fun el a b => (List.range 4).map fun i => full10 el a b (5, 24 + i)) = fun el a b => (List.range 4).map fun i => is10 el a b (5, 24 + i) := by kernel_rfl
theorem td5_7 : (fun el a b => (List.range 4).map fun i => full10 el a b (5, 28 + i)) = fun el a b => (List.range 4).map fun i => is10 el a b (5, 28 + i) := by kernel_rfl
theorem td5_8 : (fun el a b => (List.range 4).map fun i => full10 el a b (5, 32 + i)) = fun el a b => (List.range 4).map fun i => is10 el a b (5, 32 + i) := by kernel_rfl
theorem td5_9 : (fun el a b => (List.range 4).map fun i => full10 el a b (5, 36 + i)) = fun el a b => (List.range 4).map fun i => is10 el a b (5, 36 + i) := by kernel_rfl
theorem td5_10 : (fun el a b => (List.range 4).map fun i => full10 el a b (5, 40 + i)) = fun el a b => (List.range 4).map fun i => is10 el a b (5, 40 + i) := by kernel_rfl
theorem td5_11 : (fun el a b => (List.range 4).map fun i => full10 el a b (5, 44 + i)) = fun el a b => (List.range 4).map fun i => is10 el a b (5, 44 + i) := by kernel_rfl
theorem td5_12 : (fun el a b => (List.range 4).map fun i => full10 el a b (5, 48 + i)) = fun el a b => (List.range 4).map fun i => is10 el a b (5, 48 + i) := by kernel_rfl
theorem td5_13 : (fun el a b => (List.range 4).map fun i => full10 el a b (5, 52 + i)) = fun el a b => (List.range 4).map fun i => is10 el a b (5, 52 + i) := by kernel_rfl
theorem td5_14 : (fun el a b => (List.range 4).map fun i => full10 el a b (5, 56 + i)) = fun el a b => (List.range 4).map fun i => is10 el a b (5, 56 + i) := by kernel_rfl
theorem td5_15 : (fun el a b => (List.range 4).map fun i => full10 el a b (5, 60 + i)) = fun el a b => (List.range 4).map fun i => is10 el a b (5, 60 + i) := by kernel_rfl
end Go.Proofs.YtnpimbpbhbfchaaDoor.Ev
