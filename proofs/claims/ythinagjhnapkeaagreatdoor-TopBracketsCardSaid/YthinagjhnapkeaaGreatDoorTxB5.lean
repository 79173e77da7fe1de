/- TopBrackets: what is left, for some of the trays. -/
import Derived.Test.YthinagjhnapkeaaGreatDoorTxA
namespace Go.Proofs.YthinagjhnapkeaaGreatDoor.Ev
open Go Go.Proofs
theorem tb5_0 : (fun el => (List.range 32).all fun i => tl el 5 (0 + i)) = fun _ => true := by kernel_rfl
theorem tb5_1 : (fun el => (List.range 32).all fun i => tl el 5 (32 + i)) = fun _ => true := by kernel_rfl
theorem tb5_2 : (fun el => (List.range 32).all fun i => tl el 5 (64 + i)) = fun _ => true := by kernel_rfl
theorem tb5_3 : (fun el => (List.range 32).all fun i => tl el 5 (96 + i)) = fun _ => true := by kernel_rfl
end Go.Proofs.YthinagjhnapkeaaGreatDoor.Ev
