/- TopColex: all dyes, trays and numbers. -/
import Derived.Test.YthinagjhnapkeaaGreatDoorTxE
import Derived.Test.YthinagjhnapkeaaGreatDoorTxF
import Derived.Test.YthinagjhnapkeaaGreatDoorTxG
namespace Go.Proofs.YthinagjhnapkeaaGreatDoor.Ev
set_option linter.unusedVariables false
set_option maxRecDepth 100000
open Go Go.Proofs Go.RowKit
theorem se_all (el : Nat) (z : V) (r b : Nat) (hr : r < 6) (hb : b < 256) : obsZ 400 [6, 7, 8, 9, 2] ((bl5 el r (b % 2 ^ (r + 1))).map Prod.fst) (s5 el z r b) = isZ (lz4 z r (b % 2 ^ (r + 1))) (bl5 el r (b % 2 ^ (r + 1))) := by
  rcases (show r = 0 ∨ r = 1 ∨ r = 2 ∨ r = 3 ∨ r = 4 ∨ r = 5 by omega) with rfl | rfl | rfl | rfl | rfl | rfl
  · exact List.map_inj_left.1 (congrFun (congrFun se0 el) z) b (List.mem_range.2 hb)
  · exact List.map_inj_left.1 (congrFun (congrFun se1 el) z) b (List.mem_range.2 hb)
  · exact List.map_inj_left.1 (congrFun (congrFun se2 el) z) b (List.mem_range.2 hb)
  · exact List.map_inj_left.1 (congrFun (congrFun se3 el) z) b (List.mem_range.2 hb)
  · exact List.map_inj_left.1 (congrFun (congrFun se4 el) z) b (List.mem_range.2 hb)
  · exact List.map_inj_left.1 (congrFun (congrFun se5 el) z) b (List.mem_range.2 hb)
theorem sh_all (el : Nat) (z : V) (r t : Nat) (hr : r < 6) (ht : t < 2 ^ (r + 1)) : obsZ 4000 [6, 7, 8, 9, 14, 2] [1, 255] (s7 el z r t) = isZ (lz5 z r (pc r t)) (bl4 el r) := by
  rcases (show r = 0 ∨ r = 1 ∨ r = 2 ∨ r = 3 ∨ r = 4 ∨ r = 5 by omega) with rfl | rfl | rfl | rfl | rfl | rfl
  · exact chunk (f := fun b => obsZ 4000 [6, 7, 8, 9, 14, 2] [1, 255] (s7 el z 0 b)) (g := fun b => isZ (lz5 z 0 (pc 0 b)) (bl4 el 0)) (congrFun (congrFun sh0_0 el) z) (by omega) (by omega)
  · exact chunk (f := fun b => obsZ 4000 [6, 7, 8, 9, 14, 2] [1, 255] (s7 el z 1 b)) (g := fun b => isZ (lz5 z 1 (pc 1 b)) (bl4 el 1)) (congrFun (congrFun sh1_0 el) z) (by omega) (by omega)
  · exact chunk (f := fun b => obsZ 4000 [6, 7, 8, 9, 14, 2] [1, 255] (s7 el z 2 b)) (g := fun b => isZ (lz5 z 2 (pc 2 b)) (bl4 el 2)) (congrFun (congrFun sh2_0 el) z) (by omega) (by omega)
  · exact chunk (f := fun b => obsZ 4000 [6, 7, 8, 9, 14, 2] [1, 255] (s7 el z 3 b)) (g := fun b => isZ (lz5 z 3 (pc 3 b)) (bl4 el 3)) (congrFun (congrFun sh3_0 el) z) (by omega) (by omega)
  · exact chunk (f := fun b => obsZ 4000 [6, 7, 8, 9, 14, 2] [1, 255] (s7 el z 4 b)) (g := fun b => isZ (lz5 z 4 (pc 4 b)) (bl4 el 4)) (congrFun (congrFun sh4_0 el) z) (by omega) (by omega)
  · rcases (show t / 16 = 0 ∨ t / 16 = 1 ∨ t / 16 = 2 ∨ t / 16 = 3 by omega) with h | h | h | h
    · exact chunk (f := fun b => obsZ 4000 [6, 7, 8, 9, 14, 2] [1, 255] (s7 el z 5 b)) (g := fun b => isZ (lz5 z 5 (pc 5 b)) (bl4 el 5)) (congrFun (congrFun sh5_0 el) z) (by omega) (by omega)
    · exact chunk (f := fun b => obsZ 4000 [6, 7, 8, 9, 14, 2] [1, 255] (s7 el z 5 b)) (g := fun b => isZ (lz5 z 5 (pc 5 b)) (bl4 el 5)) (congrFun (congrFun sh5_1 el) z) (by omega) (by omega)
    · exact chunk (f := fun b => obsZ 4000 [6, 7, 8, 9, 14, 2] [1, 255] (s7 el z 5 b)) (g := fun b => isZ (lz5 z 5 (pc 5 b)) (bl4 el 5)) (congrFun (congrFun sh5_2 el) z) (by omega) (by omega)
    · exact chunk (f := fun b => obsZ 4000 [6, 7, 8, 9, 14, 2] [1, 255] (s7 el z 5 b)) (g := fun b => isZ (lz5 z 5 (pc 5 b)) (bl4 el 5)) (congrFun (congrFun sh5_3 el) z) (by omega) (by omega)
theorem sf_all (el : Nat) (r k z : Nat) (hr : r < 6) (hk : k ≤ r + 1) (hz : z < 256) : obsZ 4000 [6, 7, 8, 9, 14, 16] [1, 255] (s6 el r k z) = isZ (lz6 r k (z % (bin (r + 1) k + 1))) (bl4 el r) := by
  rcases (show r = 0 ∨ r = 1 ∨ r = 2 ∨ r = 3 ∨ r = 4 ∨ r = 5 by omega) with rfl | rfl | rfl | rfl | rfl | rfl
  · exact List.map_inj_left.1 (List.map_inj_left.1 (congrFun sf0 el) k (List.mem_range.2 (by omega))) z (List.mem_range.2 hz)
  · exact List.map_inj_left.1 (List.map_inj_left.1 (congrFun sf1 el) k (List.mem_range.2 (by omega))) z (List.mem_range.2 hz)
  · exact List.map_inj_left.1 (List.map_inj_left.1 (congrFun sf2 el) k (List.mem_range.2 (by omega))) z (List.mem_range.2 hz)
  · exact List.map_inj_left.1 (List.map_inj_left.1 (congrFun sf3 el) k (List.mem_range.2 (by omega))) z (List.mem_range.2 hz)
  · exact List.map_inj_left.1 (List.map_inj_left.1 (congrFun sf4 el) k (List.mem_range.2 (by omega))) z (List.mem_range.2 hz)
  · exact List.map_inj_left.1 (List.map_inj_left.1 (congrFun sf5 el) k (List.mem_range.2 (by omega))) z (List.mem_range.2 hz)
theorem sg_all (el : Nat) (r k a : Nat) (hr : r < 6) (hk : k ≤ r + 1) (ha : a < bin (r + 1) k + 1) : te el r k a = true := by
  rcases (show r = 0 ∨ r = 1 ∨ r = 2 ∨ r = 3 ∨ r = 4 ∨ r = 5 by omega) with rfl | rfl | rfl | rfl | rfl | rfl
  · exact List.all_eq_true.1 (List.all_eq_true.1 (congrFun sg0 el) k (List.mem_range.2 (by omega))) a (List.mem_range.2 ha)
  · exact List.all_eq_true.1 (List.all_eq_true.1 (congrFun sg1 el) k (List.mem_range.2 (by omega))) a (List.mem_range.2 ha)
  · exact List.all_eq_true.1 (List.all_eq_true.1 (congrFun sg2 el) k (List.mem_range.2 (by omega))) a (List.mem_range.2 ha)
  · exact List.all_eq_true.1 (List.all_eq_true.1 (congrFun sg3 el) k (List.mem_range.2 (by omega))) a (List.mem_range.2 ha)
  · exact List.all_eq_true.1 (List.all_eq_true.1 (congrFun sg4 el) k (List.mem_range.2 (by omega))) a (List.mem_range.2 ha)
  · rcases (show k = 0 ∨ k = 1 ∨ k = 2 ∨ k = 3 ∨ k = 4 ∨ k = 5 ∨ k = 6 by omega) with rfl | rfl | rfl | rfl | rfl | rfl | rfl
    · exact List.all_eq_true.1 (congrFun sg5_0 el) a (List.mem_range.2 ha)
    · exact List.all_eq_true.1 (congrFun sg5_1 el) a (List.mem_range.2 ha)
    · exact List.all_eq_true.1 (congrFun sg5_2 el) a (List.mem_range.2 ha)
    · exact List.all_eq_true.1 (congrFun sg5_3 el) a (List.mem_range.2 ha)
    · exact List.all_eq_true.1 (congrFun sg5_4 el) a (List.mem_range.2 ha)
    · exact List.all_eq_true.1 (congrFun sg5_5 el) a (List.mem_range.2 ha)
    · exact List.all_eq_true.1 (congrFun sg5_6 el) a (List.mem_range.2 ha)
theorem pc_le (r b : Nat) : pc r b ≤ r + 1 := by
  unfold pc
  exact Nat.le_trans (List.length_filter_le _ _) (by simp)
theorem co_run (el : Nat) (a b c : Nat) (ha : a ≤ 255) (hb : b ≤ 255) (hc : c ≤ 255) : JQ Tryz.prog drops Tryz.f4.ntmps (EW 40) q4 (gK + 1) (Kend res4 fun v _ _ => v = .b true) (bind (.cons (.i .u8 (a : Int)) (.cons (.i .u8 (b : Int)) (.cons (.i .u8 (c : Int)) .nil))) 0 .lf) (tbH el) (gK + 1) := by
  have hk := List.map_inj_left.1 (congrFun (congrFun (congrFun s4_0 el) (.i .u8 (b : Int))) (.i .u8 (c : Int))) a (List.mem_range.2 (by omega))
  obtain ⟨r, hr0⟩ : ∃ r, r = a % 6 := ⟨_, rfl⟩
  have hr : r < 6 := by omega
  rw [← hr0] at hk
  obtain ⟨t, ht0⟩ : ∃ t, t = b % 2 ^ (r + 1) := ⟨_, rfl⟩
  have ht : t < 2 ^ (r + 1) := by rw [ht0]; exact Nat.mod_lt _ (Nat.two_pow_pos _)
  have hp := pc_le r t
  have he := se_all el (.i .u8 (c : Int)) r b hr (by omega)
  rw [← ht0] at he
  refine JQ.stageZ follows (EW_ok 40) (EW_mono 40) (m := 300) (q4.pcs 3) (l4 (.i .u8 (b : Int)) (.i .u8 (c : Int))) (bl4 el r) q4_s hk rfl (by unfold big; omega) ?_
  refine JQ.stageZ follows (EW_ok 40) (EW_mono 40) (m := 400) ((q4.rst 3).pcs 1) (lz4 (.i .u8 (c : Int)) r t) (bl5 el r t) q4_s2 he rfl (by unfold big; omega) ?_
  refine JQ.stageZ follows (EW_ok 40) (EW_mono 40) (m := 4000) ((q4.rst 4).pcs 4) (lz5 (.i .u8 (c : Int)) r (pc r t)) (bl4 el r) q4_s4 (sh_all el (.i .u8 (c : Int)) r t hr ht) rfl (by unfold big; omega) ?_
  refine JQ.stageZ follows (EW_ok 40) (EW_mono 40) (m := 4000) ((q4.rst 8).pcs 1) (lz6 r (pc r t) (c % (bin (r + 1) (pc r t) + 1))) (bl4 el r) q4_s3 (sf_all el r (pc r t) c hr hp (by omega)) rfl (by unfold big; omega) ?_
  exact JQ.mono (fun r h => by cases r <;> first | exact ⟨h.1, h.2.1⟩ | exact h) (JQ.fin follows (EW_ok 40) (EW_mono 40) (sg_all el r (pc r t) _ hr hp (Nat.mod_lt _ (by omega))))
theorem co_walk (a b c : Nat) (ha : a ≤ 255) (hb : b ≤ 255) (hc : c ≤ 255) (w : World) (el : TypeId) (hw : Holds w [(1, el, kL .u8 zs64)]) : Calls Tryz.prog 4 #[.int .u8 (a : Int), .int .u8 (b : Int), .int .u8 (c : Int)] w fun e w' => e = .returned (.bool true) ∧ Below w.heap.size w w' :=
  lawT [(1, el, kL .u8 zs64)] Tryz.func4 b4 k4 r4 (args := .cons (.i .u8 (a : Int)) (.cons (.i .u8 (b : Int)) (.cons (.i .u8 (c : Int)) .nil))) (by simp [L.length]) (co_run el a b c ha hb hc) (vs := [.int .u8 (a : Int), .int .u8 (b : Int), .int .u8 (c : Int)]) (fun _ => ⟨_, _, rfl, rfl, _, _, rfl, rfl, _, _, rfl, rfl, rfl⟩) w hw
end Go.Proofs.YthinagjhnapkeaaGreatDoor.Ev
