/- TopBrackets: what is left, for some of the trays. -/
import Derived.Test.YthinagjhnapkeaaGreatDoorTxA
namespace Go.Proofs.YthinagjhnapkeaaGreatDoor.Ev
open Go Go.Proofs
theorem tb2_0 : (fun el => (List.range 32).all fun i => tl el 2 (0 + i)) = fun _ => true := by kernel_rfl
theorem tb2_1 : (fun el => (List.range 32).all fun i => tl el 2 (32 + i)) = fun _ => true := by kernel_rfl
theorem tb2_2 : (fun el => (List.range 32).all fun i => tl el 2 (64 + i)) = fun _ => true := by kernel_rfl
theorem tb2_3 : (fun el => (List.range 32).all fun i => tl el 2 (96 + i)) = fun _ => true := by kernel_rfl
theorem tb2_4 : (fun el => (List.range 32).all fun i => tl el 2 (128 + i)) = fun _ => true := by kernel_rfl
theorem tb2_5 : (fun el => (List.range 32).all fun i => tl el 2 (160 + i)) = fun _ => true := by kernel_rfl
theorem tb2_6 : (fun el => (List.range 32).all fun i => tl el 2 (192 + i)) = fun _ => true := by kernel_rfl
theorem tb2_7 : (fun el => (List.range 32).all fun i => tl el 2 (224 + i)) = fun _ => true := by kernel_rfl
end Go.Proofs.YthinagjhnapkeaaGreatDoor.Ev
