/- TopBrackets: what is left, for some of the trays. -/
import Derived.Test.YthinagjhnapkeaaGreatDoorTxA
namespace Go.Proofs.YthinagjhnapkeaaGreatDoor.Ev
open Go Go.Proofs
theorem tb4_0 : (fun el => (List.range 32).all fun i => tl el 4 (0 + i)) = fun _ => true := by kernel_rfl
theorem tb4_1 : (fun el => (List.range 32).all fun i => tl el 4 (32 + i)) = fun _ => true := by kernel_rfl
theorem tb4_2 : (fun el => (List.range 32).all fun i => tl el 4 (64 + i)) = fun _ => true := by kernel_rfl
theorem tb4_3 : (fun el => (List.range 32).all fun i => tl el 4 (96 + i)) = fun _ => true := by kernel_rfl
theorem tb4_4 : (fun el => (List.range 32).all fun i => tl el 4 (128 + i)) = fun _ => true := by kernel_rfl
theorem tb4_5 : (fun el => (List.range 32).all fun i => tl el 4 (160 + i)) = fun _ => true := by kernel_rfl
theorem tb4_6 : (fun el => (List.range 32).all fun i => tl el 4 (192 + i)) = fun _ => true := by kernel_rfl
theorem tb4_7 : (fun el => (List.range 32).all fun i => tl el 4 (224 + i)) = fun _ => true := by kernel_rfl
end Go.Proofs.YthinagjhnapkeaaGreatDoor.Ev
