/- TopBrackets: all trays. -/
import Derived.Test.YthinagjhnapkeaaGreatDoorTxB0
import Derived.Test.YthinagjhnapkeaaGreatDoorTxB2
import Derived.Test.YthinagjhnapkeaaGreatDoorTxB3
import Derived.Test.YthinagjhnapkeaaGreatDoorTxB4
import Derived.Test.YthinagjhnapkeaaGreatDoorTxB5
import Derived.Test.YthinagjhnapkeaaGreatDoorTxB6
namespace Go.Proofs.YthinagjhnapkeaaGreatDoor.Ev
set_option linter.unusedVariables false
set_option maxRecDepth 100000
open Go Go.Proofs Go.RowKit
theorem tb_all (el r b : Nat) (hr : r < 6) (hb : b < 256) : tl el r b = true := by
  rcases (show r = 0 ∨ r = 1 ∨ r = 2 ∨ r = 3 ∨ r = 4 ∨ r = 5 by omega) with rfl | rfl | rfl | rfl | rfl | rfl <;>
    rcases (show b / 32 = 0 ∨ b / 32 = 1 ∨ b / 32 = 2 ∨ b / 32 = 3 ∨ b / 32 = 4 ∨ b / 32 = 5 ∨ b / 32 = 6 ∨ b / 32 = 7 by omega) with h | h | h | h | h | h | h | h
  · exact chunkB (congrFun tb0_0 el) (by omega) (by omega)
  · exact chunkB (congrFun tb0_1 el) (by omega) (by omega)
  · exact chunkB (congrFun tb0_2 el) (by omega) (by omega)
  · exact chunkB (congrFun tb0_3 el) (by omega) (by omega)
  · exact chunkB (congrFun tb0_4 el) (by omega) (by omega)
  · exact chunkB (congrFun tb0_5 el) (by omega) (by omega)
  · exact chunkB (congrFun tb0_6 el) (by omega) (by omega)
  · exact chunkB (congrFun tb0_7 el) (by omega) (by omega)
  · exact chunkB (congrFun tb1_0 el) (by omega) (by omega)
  · exact chunkB (congrFun tb1_1 el) (by omega) (by omega)
  · exact chunkB (congrFun tb1_2 el) (by omega) (by omega)
  · exact chunkB (congrFun tb1_3 el) (by omega) (by omega)
  · exact chunkB (congrFun tb1_4 el) (by omega) (by omega)
  · exact chunkB (congrFun tb1_5 el) (by omega) (by omega)
  · exact chunkB (congrFun tb1_6 el) (by omega) (by omega)
  · exact chunkB (congrFun tb1_7 el) (by omega) (by omega)
  · exact chunkB (congrFun tb2_0 el) (by omega) (by omega)
  · exact chunkB (congrFun tb2_1 el) (by omega) (by omega)
  · exact chunkB (congrFun tb2_2 el) (by omega) (by omega)
  · exact chunkB (congrFun tb2_3 el) (by omega) (by omega)
  · exact chunkB (congrFun tb2_4 el) (by omega) (by omega)
  · exact chunkB (congrFun tb2_5 el) (by omega) (by omega)
  · exact chunkB (congrFun tb2_6 el) (by omega) (by omega)
  · exact chunkB (congrFun tb2_7 el) (by omega) (by omega)
  · exact chunkB (congrFun tb3_0 el) (by omega) (by omega)
  · exact chunkB (congrFun tb3_1 el) (by omega) (by omega)
  · exact chunkB (congrFun tb3_2 el) (by omega) (by omega)
  · exact chunkB (congrFun tb3_3 el) (by omega) (by omega)
  · exact chunkB (congrFun tb3_4 el) (by omega) (by omega)
  · exact chunkB (congrFun tb3_5 el) (by omega) (by omega)
  · exact chunkB (congrFun tb3_6 el) (by omega) (by omega)
  · exact chunkB (congrFun tb3_7 el) (by omega) (by omega)
  · exact chunkB (congrFun tb4_0 el) (by omega) (by omega)
  · exact chunkB (congrFun tb4_1 el) (by omega) (by omega)
  · exact chunkB (congrFun tb4_2 el) (by omega) (by omega)
  · exact chunkB (congrFun tb4_3 el) (by omega) (by omega)
  · exact chunkB (congrFun tb4_4 el) (by omega) (by omega)
  · exact chunkB (congrFun tb4_5 el) (by omega) (by omega)
  · exact chunkB (congrFun tb4_6 el) (by omega) (by omega)
  · exact chunkB (congrFun tb4_7 el) (by omega) (by omega)
  · exact chunkB (congrFun tb5_0 el) (by omega) (by omega)
  · exact chunkB (congrFun tb5_1 el) (by omega) (by omega)
  · exact chunkB (congrFun tb5_2 el) (by omega) (by omega)
  · exact chunkB (congrFun tb5_3 el) (by omega) (by omega)
  · exact chunkB (congrFun tb5_4 el) (by omega) (by omega)
  · exact chunkB (congrFun tb5_5 el) (by omega) (by omega)
  · exact chunkB (congrFun tb5_6 el) (by omega) (by omega)
  · exact chunkB (congrFun tb5_7 el) (by omega) (by omega)
theorem br_run (el : Nat) (a b : Nat) (ha : a ≤ 255) (hb : b ≤ 255) : JQ Tryz.prog drops Tryz.f3.ntmps (EW 40) q3 (gK + 1) (Kend res3 fun v _ _ => v = .b true) (bind (.cons (.i .u8 (a : Int)) (.cons (.i .u8 (b : Int)) .nil)) 0 .lf) (tbH el) (gK + 1) := by
  have hk := List.map_inj_left.1 (congrFun (congrFun s3_0 el) (.i .u8 (b : Int))) a (List.mem_range.2 (by omega))
  refine JQ.stages follows (EW_ok 40) (EW_mono 40) (tabs := tbs el) (l := l3 (.i .u8 (b : Int)) (a % 6)) (m := gK + 1) (q3.pcs 2) q3_s hk rfl (by unfold gK big; omega) ?_
  exact JQ.mono (fun r h => by cases r <;> first | exact ⟨h.1, h.2.1⟩ | exact h) (JQ.fin follows (EW_ok 40) (EW_mono 40) (tb_all el (a % 6) b (by omega) (by omega)))
theorem br_walk (a b : Nat) (ha : a ≤ 255) (hb : b ≤ 255) (w : World) (el : TypeId) (hw : Holds w [(1, el, kL .u8 zs64)]) : Calls Tryz.prog 3 #[.int .u8 (a : Int), .int .u8 (b : Int)] w fun e w' => e = .returned (.bool true) ∧ Below w.heap.size w w' :=
  lawT [(1, el, kL .u8 zs64)] Tryz.func3 b3 k3 r3 (args := .cons (.i .u8 (a : Int)) (.cons (.i .u8 (b : Int)) .nil)) (by simp [L.length]) (br_run el a b ha hb) (vs := [.int .u8 (a : Int), .int .u8 (b : Int)]) (fun _ => ⟨_, _, rfl, rfl, _, _, rfl, rfl, rfl⟩) w hw
end Go.Proofs.YthinagjhnapkeaaGreatDoor.Ev
