/- TopBrackets: what is left, for some of the trays. -/
import Derived.Test.YthinagjhnapkeaaGreatDoorTxA
namespace Go.Proofs.YthinagjhnapkeaaGreatDoor.Ev
open Go Go.Proofs
theorem tb5_4 : (fun el => (List.range 32).all fun i => tl el 5 (128 + i)) = fun _ => true := by kernel_rfl
theorem tb5_5 : (fun el => (List.range 32).all fun i => tl el 5 (160 + i)) = fun _ => true := by kernel_rfl
theorem tb5_6 : (fun el => (List.range 32).all fun i => tl el 5 (192 + i)) = fun _ => true := by kernel_rfl
theorem tb5_7 : (fun el => (List.range 32).all fun i => tl el 5 (224 + i)) = fun _ => true := by kernel_rfl
end Go.Proofs.YthinagjhnapkeaaGreatDoor.Ev
