/- TopColex: the dyes of a tray. -/
import Derived.Test.YthinagjhnapkeaaGreatDoorTxD
namespace Go.Proofs.YthinagjhnapkeaaGreatDoor.Ev
set_option maxRecDepth 100000
open Go Go.Proofs
theorem se0 : (fun el z => (List.range 256).map fun b => obsZ 400 [6, 7, 8, 9, 2] ((bl5 el 0 (b % 2)).map Prod.fst) (s5 el z 0 b)) = fun el z => (List.range 256).map fun b => isZ (lz4 z 0 (b % 2)) (bl5 el 0 (b % 2)) := by kernel_rfl
theorem se1 : (fun el z => (List.range 256).map fun b => obsZ 400 [6, 7, 8, 9, 2] ((bl5 el 1 (b % 4)).map Prod.fst) (s5 el z 1 b)) = fun el z => (List.range 256).map fun b => isZ (lz4 z 1 (b % 4)) (bl5 el 1 (b % 4)) := by kernel_rfl
theorem se2 : (fun el z => (List.range 256).map fun b => obsZ 400 [6, 7, 8, 9, 2] ((bl5 el 2 (b % 8)).map Prod.fst) (s5 el z 2 b)) = fun el z => (List.range 256).map fun b => isZ (lz4 z 2 (b % 8)) (bl5 el 2 (b % 8)) := by kernel_rfl
theorem se3 : (fun el z => (List.range 256).map fun b => obsZ 400 [6, 7, 8, 9, 2] ((bl5 el 3 (b % 16)).map Prod.fst) (s5 el z 3 b)) = fun el z => (List.range 256).map fun b => isZ (lz4 z 3 (b % 16)) (bl5 el 3 (b % 16)) := by kernel_rfl
theorem se4 : (fun el z => (List.range 256).map fun b => obsZ 400 [6, 7, 8, 9, 2] ((bl5 el 4 (b % 32)).map Prod.fst) (s5 el z 4 b)) = fun el z => (List.range 256).map fun b => isZ (lz4 z 4 (b % 32)) (bl5 el 4 (b % 32)) := by kernel_rfl
theorem se5 : (fun el z => (List.range 256).map fun b => obsZ 400 [6, 7, 8, 9, 2] ((bl5 el 5 (b % 64)).map Prod.fst) (s5 el z 5 b)) = fun el z => (List.range 256).map fun b => isZ (lz4 z 5 (b % 64)) (bl5 el 5 (b % 64)) := by kernel_rfl
theorem sh0_0 : (fun el z => (List.range 2).map fun i => obsZ 4000 [6, 7, 8, 9, 14, 2] [1, 255] (s7 el z 0 (0 + i))) = fun el z => (List.range 2).map fun i => isZ (lz5 z 0 (pc 0 (0 + i))) (bl4 el 0) := by kernel_rfl
theorem sh1_0 : (fun el z => (List.range 4).map fun i => obsZ 4000 [6, 7, 8, 9, 14, 2] [1, 255] (s7 el z 1 (0 + i))) = fun el z => (List.range 4).map fun i => isZ (lz5 z 1 (pc 1 (0 + i))) (bl4 el 1) := by kernel_rfl
theorem sh2_0 : (fun el z => (List.range 8).map fun i => obsZ 4000 [6, 7, 8, 9, 14, 2] [1, 255] (s7 el z 2 (0 + i))) = fun el z => (List.range 8).map fun i => isZ (lz5 z 2 (pc 2 (0 + i))) (bl4 el 2) := by kernel_rfl
theorem sh3_0 : (fun el z => (List.range 16).map fun i => obsZ 4000 [6, 7, 8, 9, 14, 2] [1, 255] (s7 el z 3 (0 + i))) = fun el z => (List.range 16).map fun i => isZ (lz5 z 3 (pc 3 (0 + i))) (bl4 el 3) := by kernel_rfl
theorem sh4_0 : (fun el z => (List.range 32).map fun i => obsZ 4000 [6, 7, 8, 9, 14, 2] [1, 255] (s7 el z 4 (0 + i))) = fun el z => (List.range 32).map fun i => isZ (lz5 z 4 (pc 4 (0 + i))) (bl4 el 4) := by kernel_rfl
theorem sh5_0 : (fun el z => (List.range 16).map fun i => obsZ 4000 [6, 7, 8, 9, 14, 2] [1, 255] (s7 el z 5 (0 + i))) = fun el z => (List.range 16).map fun i => isZ (lz5 z 5 (pc 5 (0 + i))) (bl4 el 5) := by kernel_rfl
theorem sh5_1 : (fun el z => (List.range 16).map fun i => obsZ 4000 [6, 7, 8, 9, 14, 2] [1, 255] (s7 el z 5 (16 + i))) = fun el z => (List.range 16).map fun i => isZ (lz5 z 5 (pc 5 (16 + i))) (bl4 el 5) := by kernel_rfl
theorem sh5_2 : (fun el z => (List.range 16).map fun i => obsZ 4000 [6, 7, 8, 9, 14, 2] [1, 255] (s7 el z 5 (32 + i))) = fun el z => (List.range 16).map fun i => isZ (lz5 z 5 (pc 5 (32 + i))) (bl4 el 5) := by kernel_rfl
theorem sh5_3 : (fun el z => (List.range 16).map fun i => obsZ 4000 [6, 7, 8, 9, 14, 2] [1, 255] (s7 el z 5 (48 + i))) = fun el z => (List.range 16).map fun i => isZ (lz5 z 5 (pc 5 (48 + i))) (bl4 el 5) := by kernel_rfl
end Go.Proofs.YthinagjhnapkeaaGreatDoor.Ev
