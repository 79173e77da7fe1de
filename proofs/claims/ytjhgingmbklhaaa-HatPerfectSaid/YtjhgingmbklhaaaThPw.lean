/- HatPerfect: all numbers. -/
import Derived.Test.YtjhgingmbklhaaaThPj
import Derived.Test.YtjhgingmbklhaaaThPl
namespace Go.Proofs.Ytjhgingmbklhaaa.Ev
set_option linter.unusedVariables false
set_option maxRecDepth 100000
open Go Go.Proofs Go.RowKit
theorem ti7 (k : Nat) (hk : k < 128) : tin7 k = true := by
  rcases (show k / 16 = 0 ∨ k / 16 = 1 ∨ k / 16 = 2 ∨ k / 16 = 3 ∨ k / 16 = 4 ∨ k / 16 = 5 ∨ k / 16 = 6 ∨ k / 16 = 7 by omega) with h | h | h | h | h | h | h | h
  · exact chunkB ti7_0 (by omega) (by omega)
  · exact chunkB ti7_1 (by omega) (by omega)
  · exact chunkB ti7_2 (by omega) (by omega)
  · exact chunkB ti7_3 (by omega) (by omega)
  · exact chunkB ti7_4 (by omega) (by omega)
  · exact chunkB ti7_5 (by omega) (by omega)
  · exact chunkB ti7_6 (by omega) (by omega)
  · exact chunkB ti7_7 (by omega) (by omega)
theorem pf_run (z c : Int) : ∃ F : FF, FOK Try.prog F ∧ JQ Try.prog drops Try.f5.ntmps F q5 256 (Kend res5 (Good 0 (.v (.b true)))) (bind (.cons (I z) (.cons (I c) .nil)) 0 .lf) .lf 256 := by
  by_cases hz : z < 1 ∨ 7 < z
  · exact ⟨FA, FA_ok, caseA z c hz⟩
  by_cases h3 : is3 z
  · refine ⟨FD, FD_ok, ?_⟩
    by_cases hc : c < 0 ∨ pw z ≤ c
    · rcases h3 with rfl | rfl | rfl
      · exact JQ.stageC follows FD_ok FD_mono (m := 400) (q5.pcs 3) (l1 1 sa1 sb1 (I c)) bl1 q5_s (congrFun hp1 (I c)) rfl (by unfold big; omega) (cout (.inl rfl) hc sa1 sb1 _ (JQ.fin follows FD_ok FD_mono to1))
      · exact JQ.stageC follows FD_ok FD_mono (m := 400) (q5.pcs 3) (l1 3 sa3 sb3 (I c)) bl3 q5_s (congrFun hp3 (I c)) rfl (by unfold big; omega) (cout (.inr (.inl rfl)) hc sa3 sb3 _ (JQ.fin follows FD_ok FD_mono to3))
      · exact JQ.stageC follows FD_ok FD_mono (m := 400) (q5.pcs 3) (l1 7 sa7 sb7 (I c)) bl7 q5_s (congrFun hp7 (I c)) rfl (by unfold big; omega) (cout (.inr (.inr rfl)) hc sa7 sb7 _ (JQ.fin follows FD_ok FD_mono to7))
    · obtain ⟨k, rfl⟩ : ∃ k : Nat, c = k := ⟨c.toNat, by omega⟩
      have hk : (k : Int) < pw z := by omega
      rcases h3 with rfl | rfl | rfl
      · have hk : k < 2 := by have : (k : Int) < 2 := hk; omega
        exact JQ.stageC follows FD_ok FD_mono (m := 400) (q5.pcs 3) (l1 1 sa1 sb1 (I (k : Int))) bl1 q5_s (congrFun hp1 _) rfl (by unfold big; omega) (JQ.fin follows FD_ok FD_mono (List.all_eq_true.1 ti1 k (List.mem_range.2 hk)))
      · have hk : k < 8 := by have : (k : Int) < 8 := hk; omega
        exact JQ.stageC follows FD_ok FD_mono (m := 400) (q5.pcs 3) (l1 3 sa3 sb3 (I (k : Int))) bl3 q5_s (congrFun hp3 _) rfl (by unfold big; omega) (JQ.fin follows FD_ok FD_mono (List.all_eq_true.1 ti3 k (List.mem_range.2 hk)))
      · have hk : k < 128 := by have : (k : Int) < 128 := hk; omega
        exact JQ.stageC follows FD_ok FD_mono (m := 400) (q5.pcs 3) (l1 7 sa7 sb7 (I (k : Int))) bl7 q5_s (congrFun hp7 _) rfl (by unfold big; omega) (JQ.fin follows FD_ok FD_mono (ti7 k hk))
  · refine ⟨EX 60, EX_ok 60, ?_⟩
    unfold is3 at h3
    rcases (show z = 2 ∨ z = 4 ∨ z = 5 ∨ z = 6 by omega) with rfl | rfl | rfl | rfl
    · exact JQ.fin follows (EX_ok 60) (EX_mono 60) (congrFun nb2 (I c))
    · exact JQ.stageC follows (EX_ok 60) (EX_mono 60) (m := 20000) (q5.pcs 7) l4 bl4 q5_4 (congrFun nb4a (I c)) rfl (by unfold big; omega) (JQ.fin follows (EX_ok 60) (EX_mono 60) nb4b)
    · exact JQ.fin follows (EX_ok 60) (EX_mono 60) (congrFun nb5 (I c))
    · exact JQ.fin follows (EX_ok 60) (EX_mono 60) (congrFun nb6 (I c))
theorem perfect_walk (z c : Int) (W : World) : Calls Try.prog 5 #[.int .i64 z, .int .i64 c] W fun e w' => e = .returned (.bool true) ∧ Below W.heap.size W w' := by
  obtain ⟨F, _, j⟩ := pf_run z c
  exact lawC Try.func5 n5 b5 k5 r5 (args := .cons (I z) (.cons (I c) .nil)) (by simp [L.length]) (by simp [L.pur, I_pur]) j (vs := [.int .i64 z, .int .i64 c]) (fun g => ⟨_, _, rfl, I_rel, _, _, rfl, I_rel, rfl⟩) W
end Go.Proofs.Ytjhgingmbklhaaa.Ev
