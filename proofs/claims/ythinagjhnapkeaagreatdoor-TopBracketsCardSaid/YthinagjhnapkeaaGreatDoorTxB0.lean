/- TopBrackets: what is left, for some of the trays. -/
import Derived.Test.YthinagjhnapkeaaGreatDoorTxA
namespace Go.Proofs.YthinagjhnapkeaaGreatDoor.Ev
open Go Go.Proofs
theorem tb0_0 : (fun el => (List.range 32).all fun i => tl el 0 (0 + i)) = fun _ => true := by kernel_rfl
theorem tb0_1 : (fun el => (List.range 32).all fun i => tl el 0 (32 + i)) = fun _ => true := by kernel_rfl
theorem tb0_2 : (fun el => (List.range 32).all fun i => tl el 0 (64 + i)) = fun _ => true := by kernel_rfl
theorem tb0_3 : (fun el => (List.range 32).all fun i => tl el 0 (96 + i)) = fun _ => true := by kernel_rfl
theorem tb0_4 : (fun el => (List.range 32).all fun i => tl el 0 (128 + i)) = fun _ => true := by kernel_rfl
theorem tb0_5 : (fun el => (List.range 32).all fun i => tl el 0 (160 + i)) = fun _ => true := by kernel_rfl
theorem tb0_6 : (fun el => (List.range 32).all fun i => tl el 0 (192 + i)) = fun _ => true := by kernel_rfl
theorem tb0_7 : (fun el => (List.range 32).all fun i => tl el 0 (224 + i)) = fun _ => true := by kernel_rfl
theorem tb1_0 : (fun el => (List.range 32).all fun i => tl el 1 (0 + i)) = fun _ => true := by kernel_rfl
theorem tb1_1 : (fun el => (List.range 32).all fun i => tl el 1 (32 + i)) = fun _ => true := by kernel_rfl
theorem tb1_2 : (fun el => (List.range 32).all fun i => tl el 1 (64 + i)) = fun _ => true := by kernel_rfl
theorem tb1_3 : (fun el => (List.range 32).all fun i => tl el 1 (96 + i)) = fun _ => true := by kernel_rfl
theorem tb1_4 : (fun el => (List.range 32).all fun i => tl el 1 (128 + i)) = fun _ => true := by kernel_rfl
theorem tb1_5 : (fun el => (List.range 32).all fun i => tl el 1 (160 + i)) = fun _ => true := by kernel_rfl
theorem tb1_6 : (fun el => (List.range 32).all fun i => tl el 1 (192 + i)) = fun _ => true := by kernel_rfl
theorem tb1_7 : (fun el => (List.range 32).all fun i => tl el 1 (224 + i)) = fun _ => true := by kernel_rfl
end Go.Proofs.YthinagjhnapkeaaGreatDoor.Ev
