/- TrayKatona: what is left, for some of the numbers. -/
import Derived.Test.YtnpimbpbhbfchaaDoorTrKa
import Derived.KernelRfl
namespace Go.Proofs.YtnpimbpbhbfchaaDoor.Ev
open Go Go.Proofs
theorem tk4_0_0 : (fun el z => tlB el z 4 0 0) = fun _ _ => true := by kernel_rfl
theorem tk4_0_1 : (fun el z => tlB el z 4 0 1) = fun _ _ => true := by kernel_rfl
theorem tk4_1_0 : (fun el z => tlB el z 4 1 0) = fun _ _ => true := by kernel_rfl
theorem tk4_1_1 : (fun el z => tlB el z 4 1 1) = fun _ _ => true := by kernel_rfl
theorem tk4_1_2 : (fun el z => tlB el z 4 1 2) = fun _ _ => true := by kernel_rfl
theorem tk4_1_3 : (fun el z => tlB el z 4 1 3) = fun _ _ => true := by kernel_rfl
theorem tk4_1_4 : (fun el z => tlB el z 4 1 4) = fun _ _ => true := by kernel_rfl
theorem tk4_1_5 : (fun el z => tlB el z 4 1 5) = fun _ _ => true := by kernel_rfl
theorem tk4_4_0 : (fun el z => tlB el z 4 4 0) = fun _ _ => true := by kernel_rfl
theorem tk4_4_1 : (fun el z => tlB el z 4 4 1) = fun _ _ => true := by kernel_rfl
theorem tk4_4_2 : (fun el z => tlB el z 4 4 2) = fun _ _ => true := by kernel_rfl
theorem tk4_4_3 : (fun el z => tlB el z 4 4 3) = fun _ _ => true := by kernel_rfl
theorem tk4_4_4 : (fun el z => tlB el z 4 4 4) = fun _ _ => true := by kernel_rfl
theorem tk4_4_5 : (fun el z => tlB el z 4 4 5) = fun _ _ => true := by kernel_rfl
theorem tk4_5_0 : (fun el z => tlB el z 4 5 0) = fun _ _ => true := by kernel_rfl
theorem tk4_5_1 : (fun el z => tlB el z 4 5 1) = fun _ _ => true := by kernel_rfl
end Go.Proofs.YtnpimbpbhbfchaaDoor.Ev
