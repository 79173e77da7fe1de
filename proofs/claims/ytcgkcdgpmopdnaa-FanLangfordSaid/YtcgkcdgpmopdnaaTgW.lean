/- FanLangford: all kinds and widths. -/
import Derived.Test.YtcgkcdgpmopdnaaTg1
import Derived.Test.YtcgkcdgpmopdnaaTg5t
import Derived.Test.YtcgkcdgpmopdnaaTg5f
namespace Go.Proofs.Ytcgkcdgpmopdnaa.Ev
set_option linter.unusedVariables false
set_option maxRecDepth 100000
open Go Go.Proofs Go.RowKit
theorem tl_all (w : Bool) (r : Nat) (hr : r < 5) : tl w r = true := by
  rcases (show r = 0 ∨ r = 1 ∨ r = 2 ∨ r = 3 ∨ r = 4 by omega) with rfl | rfl | rfl | rfl | rfl <;> cases w
  · exact g0f
  · exact g0t
  · exact g1f
  · exact g1t
  · exact g2f
  · exact g2t
  · exact g3f
  · exact g3t
  · exact g4f
  · exact g4t
theorem tm_all (w : Bool) : tm w 5 = true := by
  cases w
  · exact g5f
  · exact g5t
theorem wf_u8 {b : Int} (h : (Lit.int .u8 b).wf = true) : ∃ a : Nat, b = a ∧ a ≤ 255 := by
  simp [Lit.wf] at h
  have h1 : IntKind.u8.min = 0 := by decide
  have h2 : IntKind.u8.max = 255 := by decide
  rw [h1, h2] at h
  exact ⟨b.toNat, by omega, by omega⟩
theorem s1_tl : (List.range 256).map (fun a : Nat => obs 300 [3, 4, 5] (runP (EL 60) 256 300 (q3.pcs 2) (.nor (bind (.cons (.i .u8 (a : Int)) (.cons (.b true) .nil)) 0 .lf) .lf 256))) = (List.range 256).map fun a : Nat => (true, l1.map Prod.snd, hh true (a % 6 + 1)) := by kernel_rfl
theorem s1_fl : (List.range 256).map (fun a : Nat => obs 300 [3, 4, 5] (runP (EL 60) 256 300 (q3.pcs 2) (.nor (bind (.cons (.i .u8 (a : Int)) (.cons (.b false) .nil)) 0 .lf) .lf 256))) = (List.range 256).map fun a : Nat => (true, l1.map Prod.snd, hh false (a % 6 + 1)) := by kernel_rfl
theorem s1_ob (w : Bool) (a : Nat) (ha : a < 256) : obs 300 (l1.map Prod.fst) (s1 w a) = (true, l1.map Prod.snd, hh w (a % 6 + 1)) := by
  cases w
  · exact List.map_inj_left.1 s1_f a (List.mem_range.2 ha)
  · exact List.map_inj_left.1 s1_t a (List.mem_range.2 ha)
theorem s1_ol (w : Bool) (a : Nat) (ha : a < 256) : obs 300 (l1.map Prod.fst) (runP (EL 60) 256 300 (q3.pcs 2) (.nor (bind (.cons (.i .u8 (a : Int)) (.cons (.b w) .nil)) 0 .lf) .lf 256)) = (true, l1.map Prod.snd, hh w (a % 6 + 1)) := by
  cases w
  · exact List.map_inj_left.1 s1_fl a (List.mem_range.2 ha)
  · exact List.map_inj_left.1 s1_tl a (List.mem_range.2 ha)
theorem lang_run (a : Nat) (w : Bool) (ha : a < 256) : ∃ F : FF, FOK Try.prog F ∧ JQ Try.prog drops Try.f3.ntmps F q3 256 (Kend res3 (Good 0 (.v (.b true)))) (bind (.cons (.i .u8 (a : Int)) (.cons (.b w) .nil)) 0 .lf) .lf 256 := by
  by_cases h5 : a % 6 = 5
  · refine ⟨EL 60, EL_ok 60, JQ.stageY follows (EL_ok 60) (EL_mono 60) (m := 300) (q3.pcs 2) l1 (hh w (a % 6 + 1)) q3_s (s1_ol w a ha) rfl (by unfold big; omega) ?_⟩
    rw [h5]
    exact JQ.fin follows (EL_ok 60) (EL_mono 60) (tm_all w)
  · refine ⟨EK 60, EK_ok 60, JQ.stageY follows (EK_ok 60) (EK_mono 60) (m := 300) (q3.pcs 2) l1 (hh w (a % 6 + 1)) q3_s (s1_ob w a ha) rfl (by unfold big; omega) ?_⟩
    exact JQ.fin follows (EK_ok 60) (EK_mono 60) (tl_all w (a % 6) (by have := Nat.mod_lt a (show 6 > 0 by omega); omega))
theorem lang_walk (a : Nat) (w : Bool) (ha : a ≤ 255) (W : World) : Calls Try.prog 3 #[.int .u8 (a : Int), .bool w] W fun e w' => e = .returned (.bool true) ∧ Below W.heap.size W w' := by
  obtain ⟨F, _, j⟩ := lang_run a w (by omega)
  exact lawC Try.func3 n3 b3 k3 r3 (args := .cons (.i .u8 (a : Int)) (.cons (.b w) .nil)) (by simp [L.length]) rfl j (vs := [.int .u8 (a : Int), .bool w]) (fun g => ⟨_, _, rfl, rfl, _, _, rfl, rfl, rfl⟩) W
end Go.Proofs.Ytcgkcdgpmopdnaa.Ev
