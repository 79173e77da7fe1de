/- TopColex: the trays with numbers. -/
import Derived.Test.YthinagjhnapkeaaGreatDoorTxD
namespace Go.Proofs.YthinagjhnapkeaaGreatDoor.Ev
set_option maxRecDepth 100000
open Go Go.Proofs
theorem sf0 : (fun el => (List.range 2).map fun k => (List.range 256).map fun z => obsZ 4000 [6, 7, 8, 9, 14, 16] [1, 255] (s6 el 0 k z)) = fun el => (List.range 2).map fun k => (List.range 256).map fun z => isZ (lz6 0 k (z % (bin 1 k + 1))) (bl4 el 0) := by kernel_rfl
theorem sf1 : (fun el => (List.range 3).map fun k => (List.range 256).map fun z => obsZ 4000 [6, 7, 8, 9, 14, 16] [1, 255] (s6 el 1 k z)) = fun el => (List.range 3).map fun k => (List.range 256).map fun z => isZ (lz6 1 k (z % (bin 2 k + 1))) (bl4 el 1) := by kernel_rfl
theorem sf2 : (fun el => (List.range 4).map fun k => (List.range 256).map fun z => obsZ 4000 [6, 7, 8, 9, 14, 16] [1, 255] (s6 el 2 k z)) = fun el => (List.range 4).map fun k => (List.range 256).map fun z => isZ (lz6 2 k (z % (bin 3 k + 1))) (bl4 el 2) := by kernel_rfl
theorem sf3 : (fun el => (List.range 5).map fun k => (List.range 256).map fun z => obsZ 4000 [6, 7, 8, 9, 14, 16] [1, 255] (s6 el 3 k z)) = fun el => (List.range 5).map fun k => (List.range 256).map fun z => isZ (lz6 3 k (z % (bin 4 k + 1))) (bl4 el 3) := by kernel_rfl
theorem sf4 : (fun el => (List.range 6).map fun k => (List.range 256).map fun z => obsZ 4000 [6, 7, 8, 9, 14, 16] [1, 255] (s6 el 4 k z)) = fun el => (List.range 6).map fun k => (List.range 256).map fun z => isZ (lz6 4 k (z % (bin 5 k + 1))) (bl4 el 4) := by kernel_rfl
theorem sf5 : (fun el => (List.range 7).map fun k => (List.range 256).map fun z => obsZ 4000 [6, 7, 8, 9, 14, 16] [1, 255] (s6 el 5 k z)) = fun el => (List.range 7).map fun k => (List.range 256).map fun z => isZ (lz6 5 k (z % (bin 6 k + 1))) (bl4 el 5) := by kernel_rfl
theorem sg0 : (fun el => (List.range 2).all fun k => (List.range (bin 1 k + 1)).all fun a => te el 0 k a) = fun _ => true := by kernel_rfl
theorem sg1 : (fun el => (List.range 3).all fun k => (List.range (bin 2 k + 1)).all fun a => te el 1 k a) = fun _ => true := by kernel_rfl
theorem sg2 : (fun el => (List.range 4).all fun k => (List.range (bin 3 k + 1)).all fun a => te el 2 k a) = fun _ => true := by kernel_rfl
theorem sg3 : (fun el => (List.range 5).all fun k => (List.range (bin 4 k + 1)).all fun a => te el 3 k a) = fun _ => true := by kernel_rfl
theorem sg4 : (fun el => (List.range 6).all fun k => (List.range (bin 5 k + 1)).all fun a => te el 4 k a) = fun _ => true := by kernel_rfl
end Go.Proofs.YthinagjhnapkeaaGreatDoor.Ev
