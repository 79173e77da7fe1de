/- TrayKatona: what is left, for some of the numbers. -/
import Derived.Test.YtnpimbpbhbfchaaDoorTrKa
import Derived.KernelRfl
namespace Go.Proofs.YtnpimbpbhbfchaaDoor.Ev
open Go Go.Proofs
theorem tk0_0_0 : (fun el z => tlB el z 0 0 0) = fun _ _ => true := by kernel_rfl
theorem tk0_0_1 : (fun el z => tlB el z 0 0 1) = fun _ _ => true := by kernel_rfl
theorem tk0_1_0 : (fun el z => tlB el z 0 1 0) = fun _ _ => true := by kernel_rfl
theorem tk0_1_1 : (fun el z => tlB el z 0 1 1) = fun _ _ => true := by kernel_rfl
theorem tk1_0_0 : (fun el z => tlB el z 1 0 0) = fun _ _ => true := by kernel_rfl
theorem tk1_0_1 : (fun el z => tlB el z 1 0 1) = fun _ _ => true := by kernel_rfl
theorem tk1_1_0 : (fun el z => tlB el z 1 1 0) = fun _ _ => true := by kernel_rfl
theorem tk1_1_1 : (fun el z => tlB el z 1 1 1) = fun _ _ => true := by kernel_rfl
theorem tk1_1_2 : (fun el z => tlB el z 1 1 2) = fun _ _ => true := by kernel_rfl
theorem tk1_2_0 : (fun el z => tlB el z 1 2 0) = fun _ _ => true := by kernel_rfl
theorem tk1_2_1 : (fun el z => tlB el z 1 2 1) = fun _ _ => true := by kernel_rfl
theorem tk2_0_0 : (fun el z => tlB el z 2 0 0) = fun _ _ => true := by kernel_rfl
theorem tk2_0_1 : (fun el z => tlB el z 2 0 1) = fun _ _ => true := by kernel_rfl
theorem tk2_1_0 : (fun el z => tlB el z 2 1 0) = fun _ _ => true := by kernel_rfl
theorem tk2_1_1 : (fun el z => tlB el z 2 1 1) = fun _ _ => true := by kernel_rfl
theorem tk2_1_2 : (fun el z => tlB el z 2 1 2) = fun _ _ => true := by kernel_rfl
theorem tk2_1_3 : (fun el z => tlB el z 2 1 3) = fun _ _ => true := by kernel_rfl
theorem tk2_2_0 : (fun el z => tlB el z 2 2 0) = fun _ _ => true := by kernel_rfl
theorem tk2_2_1 : (fun el z => tlB el z 2 2 1) = fun _ _ => true := by kernel_rfl
theorem tk2_2_2 : (fun el z => tlB el z 2 2 2) = fun _ _ => true := by kernel_rfl
theorem tk2_2_3 : (fun el z => tlB el z 2 2 3) = fun _ _ => true := by kernel_rfl
theorem tk2_3_0 : (fun el z => tlB el z 2 3 0) = fun _ _ => true := by kernel_rfl
theorem tk2_3_1 : (fun el z => tlB el z 2 3 1) = fun _ _ => true := by kernel_rfl
theorem tk3_0_0 : (fun el z => tlB el z 3 0 0) = fun _ _ => true := by kernel_rfl
theorem tk3_0_1 : (fun el z => tlB el z 3 0 1) = fun _ _ => true := by kernel_rfl
theorem tk3_1_0 : (fun el z => tlB el z 3 1 0) = fun _ _ => true := by kernel_rfl
theorem tk3_1_1 : (fun el z => tlB el z 3 1 1) = fun _ _ => true := by kernel_rfl
theorem tk3_1_2 : (fun el z => tlB el z 3 1 2) = fun _ _ => true := by kernel_rfl
theorem tk3_1_3 : (fun el z => tlB el z 3 1 3) = fun _ _ => true := by kernel_rfl
theorem tk3_1_4 : (fun el z => tlB el z 3 1 4) = fun _ _ => true := by kernel_rfl
theorem tk3_2_0 : (fun el z => tlB el z 3 2 0) = fun _ _ => true := by kernel_rfl
theorem tk3_2_1 : (fun el z => tlB el z 3 2 1) = fun _ _ => true := by kernel_rfl
theorem tk3_2_2 : (fun el z => tlB el z 3 2 2) = fun _ _ => true := by kernel_rfl
theorem tk3_2_3 : (fun el z => tlB el z 3 2 3) = fun _ _ => true := by kernel_rfl
theorem tk3_2_4 : (fun el z => tlB el z 3 2 4) = fun _ _ => true := by kernel_rfl
theorem tk3_2_5 : (fun el z => tlB el z 3 2 5) = fun _ _ => true := by kernel_rfl
theorem tk3_2_6 : (fun el z => tlB el z 3 2 6) = fun _ _ => true := by kernel_rfl
theorem tk3_3_0 : (fun el z => tlB el z 3 3 0) = fun _ _ => true := by kernel_rfl
theorem tk3_3_1 : (fun el z => tlB el z 3 3 1) = fun _ _ => true := by kernel_rfl
theorem tk3_3_2 : (fun el z => tlB el z 3 3 2) = fun _ _ => true := by kernel_rfl
theorem tk3_3_3 : (fun el z => tlB el z 3 3 3) = fun _ _ => true := by kernel_rfl
theorem tk3_3_4 : (fun el z => tlB el z 3 3 4) = fun _ _ => true := by kernel_rfl
theorem tk3_4_0 : (fun el z => tlB el z 3 4 0) = fun _ _ => true := by kernel_rfl
theorem tk3_4_1 : (fun el z => tlB el z 3 4 1) = fun _ _ => true := by kernel_rfl
end Go.Proofs.YtnpimbpbhbfchaaDoor.Ev
