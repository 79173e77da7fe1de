/- TopBrackets: what is left, for some of the trays. -/
import Derived.Test.YthinagjhnapkeaaGreatDoorTxA
namespace Go.Proofs.YthinagjhnapkeaaGreatDoor.Ev
open Go Go.Proofs
theorem tb3_0 : (fun el => (List.range 32).all fun i => tl el 3 (0 + i)) = fun _ => true := by kernel_rfl
theorem tb3_1 : (fun el => (List.range 32).all fun i => tl el 3 (32 + i)) = fun _ => true := by kernel_rfl
theorem tb3_2 : (fun el => (List.range 32).all fun i => tl el 3 (64 + i)) = fun _ => true := by kernel_rfl
theorem tb3_3 : (fun el => (List.range 32).all fun i => tl el 3 (96 + i)) = fun _ => true := by kernel_rfl
theorem tb3_4 : (fun el => (List.range 32).all fun i => tl el 3 (128 + i)) = fun _ => true := by kernel_rfl
theorem tb3_5 : (fun el => (List.range 32).all fun i => tl el 3 (160 + i)) = fun _ => true := by kernel_rfl
theorem tb3_6 : (fun el => (List.range 32).all fun i => tl el 3 (192 + i)) = fun _ => true := by kernel_rfl
theorem tb3_7 : (fun el => (List.range 32).all fun i => tl el 3 (224 + i)) = fun _ => true := by kernel_rfl
end Go.Proofs.YthinagjhnapkeaaGreatDoor.Ev
