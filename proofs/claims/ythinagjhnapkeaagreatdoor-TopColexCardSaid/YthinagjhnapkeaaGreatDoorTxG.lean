/- TopColex: the trays with numbers, of six dyes. -/
import Derived.Test.YthinagjhnapkeaaGreatDoorTxD
namespace Go.Proofs.YthinagjhnapkeaaGreatDoor.Ev
set_option maxRecDepth 100000
open Go Go.Proofs
theorem sg5_0 : (fun el => (List.range (bin 6 0 + 1)).all fun a => te el 5 0 a) = fun _ => true := by kernel_rfl
theorem sg5_1 : (fun el => (List.range (bin 6 1 + 1)).all fun a => te el 5 1 a) = fun _ => true := by kernel_rfl
theorem sg5_2 : (fun el => (List.range (bin 6 2 + 1)).all fun a => te el 5 2 a) = fun _ => true := by kernel_rfl
theorem sg5_3 : (fun el => (List.range (bin 6 3 + 1)).all fun a => te el 5 3 a) = fun _ => true := by kernel_rfl
theorem sg5_4 : (fun el => (List.range (bin 6 4 + 1)).all fun a => te el 5 4 a) = fun _ => true := by kernel_rfl
theorem sg5_5 : (fun el => (List.range (bin 6 5 + 1)).all fun a => te el 5 5 a) = fun _ => true := by kernel_rfl
theorem sg5_6 : (fun el => (List.range (bin 6 6 + 1)).all fun a => te el 5 6 a) = fun _ => true := by kernel_rfl
end Go.Proofs.YthinagjhnapkeaaGreatDoor.Ev
