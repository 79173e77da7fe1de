/- HatHamming: all numbers. -/
import Derived.Test.YtjhgingmbklhaaaThHd
namespace Go.Proofs.Ytjhgingmbklhaaa.Ev
set_option linter.unusedVariables false
set_option maxRecDepth 100000
open Go Go.Proofs Go.RowKit
theorem wf_u8 {b : Int} (h : (Lit.int .u8 b).wf = true) : ∃ a : Nat, b = a ∧ a ≤ 255 := by
  simp [Lit.wf] at h
  have h1 : IntKind.u8.min = 0 := by decide
  have h2 : IntKind.u8.max = 255 := by decide
  rw [h1, h2] at h
  exact ⟨b.toNat, by omega, by omega⟩
noncomputable def hb (p : Nat) (xs : List Int) : Hp := Hp.lf.put (some (blkL 3 (iL xs))) (tp p)
theorem e7 : (xs7.map fun z => EW 60 46 (.cons (.sl (tp 330) 0 1 16 none) (.cons (I z) .nil)) 2000 (hb 330 xs7) 2000) = xs7.map fun z => .ok (.b true) (hb 330 xs7) 2000 := by kernel_rfl
theorem e3 : (([0, 7] : List Int).map fun z => EW 60 46 (.cons (.sl (tp 302) 0 1 2 none) (.cons (I z) .nil)) 2000 (hb 302 [0, 7]) 2000) = ([0, 7] : List Int).map fun z => .ok (.b true) (hb 302 [0, 7]) 2000 := by kernel_rfl
theorem e1 : (([0] : List Int).map fun z => EW 60 46 (.cons (.sl (tp 300) 0 1 1 none) (.cons (I z) .nil)) 2000 (hb 300 [0]) 2000) = ([0] : List Int).map fun z => .ok (.b true) (hb 300 [0]) 2000 := by kernel_rfl
noncomputable def xo (xs : List Int) (i j : Nat) : Bool := xs.any fun z => eqV (binV .xor (I (At xs i)) (I (At xs j))) (I z)
theorem xo_ok {xs : List Int} {i j : Nat} (h : xo xs i j = true) : ∃ z ∈ xs, binV .xor (I (At xs i)) (I (At xs j)) = I z := by
  obtain ⟨z, hz, e⟩ := List.any_eq_true.1 h
  exact ⟨z, hz, eqV_eq _ _ e⟩
theorem x7 : ((List.range 16).all fun i => (List.range 16).all fun j => xo xs7 i j) = true := by kernel_rfl
theorem x3 : ((List.range 2).all fun i => (List.range 2).all fun j => xo [0, 7] i j) = true := by kernel_rfl
theorem x1 : ((List.range 1).all fun i => (List.range 1).all fun j => xo [0] i j) = true := by kernel_rfl
theorem x_at {xs : List Int} {L : Nat} (h : ((List.range L).all fun i => (List.range L).all fun j => xo xs i j) = true) (i j : Nat) (hi : i < L) (hj : j < L) : ∃ z ∈ xs, binV .xor (I (At xs i)) (I (At xs j)) = I z :=
  xo_ok (List.all_eq_true.1 (List.all_eq_true.1 h i (List.mem_range.2 hi)) j (List.mem_range.2 hj))
theorem nn_cases (k : Nat) (hk : k < 3) : (k = 0 ∧ nn k = 1) ∨ (k = 1 ∧ nn k = 3) ∨ (k = 2 ∧ nn k = 7) := by
  rcases (show k = 0 ∨ k = 1 ∨ k = 2 by omega) with rfl | rfl | rfl
  · exact .inl ⟨rfl, rfl⟩
  · exact .inr (.inl ⟨rfl, rfl⟩)
  · exact .inr (.inr ⟨rfl, rfl⟩)
theorem q10_d : (q10.rst 2) = seqs ((q10.rst 2).pcs 6) (q10.rst 8) := q10_t
theorem hm_run (a b c : Nat) (ha : a ≤ 255) (hb' : b ≤ 255) (hc' : c ≤ 255) : JQ Try.prog drops Try.f10.ntmps (EW 60) q10 256 (Kend res10 (Good 0 (.v (.b true)))) (bind (.cons (.i .u8 (a : Int)) (.cons (.i .u8 (b : Int)) (.cons (.i .u8 (c : Int)) .nil))) 0 .lf) .lf 256 := by
  have h1a : stg [] 300 [1, 2, 7] (runP (EW 60) 256 300 (q10.pcs 2) (.nor (bind (.cons (.i .u8 (a : Int)) (.cons (.i .u8 (b : Int)) (.cons (.i .u8 (c : Int)) .nil))) 0 .lf) .lf 256)) = stgIs [] [(1, .i .u8 (b : Int)), (2, .i .u8 (c : Int)), (7, .n (nn (a % 3)))] :=
    List.map_inj_left.1 (congrFun (congrFun h1 (.i .u8 (b : Int))) (.i .u8 (c : Int))) a (List.mem_range.2 (by omega))
  refine JQ.stages follows (EW_ok 60) (EW_mono 60) (m := 300) (tabs := []) (l := [(1, .i .u8 (b : Int)), (2, .i .u8 (c : Int)), (7, .n (nn (a % 3)))]) (q10.pcs 2) q10_s h1a rfl (by unfold big; omega) ?_
  rcases nn_cases (a % 3) (Nat.mod_lt _ (by omega)) with ⟨_, e⟩ | ⟨_, e⟩ | ⟨_, e⟩ <;> rw [e]
  · refine JQ.stageC follows (EW_ok 60) (EW_mono 60) (m := 2000) _ (lC 1 (.sl (tp 300) 0 1 1 none) (.sl (tp 327) 0 1 1 none) (.i .u8 (b : Int)) (.i .u8 (c : Int))) [(300, 3, iL [0])] q10_t (congrFun (congrFun h_1 _) _) rfl (by unfold big; omega) ?_
    exact hm_end 1 300 1 [0] 327 1 b c hb' hc' rfl (by omega) (by omega) rfl (by omega) (by omega) (fun z hz => List.map_inj_left.1 e1 z hz) (by simp) (x_at x1)
  · refine JQ.stageC follows (EW_ok 60) (EW_mono 60) (m := 2000) _ (lC 3 (.sl (tp 302) 0 1 2 none) (.sl (tp 382) 0 1 6 none) (.i .u8 (b : Int)) (.i .u8 (c : Int))) [(302, 3, iL [0, 7])] q10_t (congrFun (congrFun h_3 _) _) rfl (by unfold big; omega) ?_
    exact hm_end 3 302 2 [0, 7] 382 6 b c hb' hc' rfl (by omega) (by omega) rfl (by omega) (by omega) (fun z hz => List.map_inj_left.1 e3 z hz) (by simp) (x_at x3)
  · refine JQ.stageC follows (EW_ok 60) (EW_mono 60) (m := 400) _ (lA (.i .u8 (b : Int)) (.i .u8 (c : Int))) bA q10_a (congrFun (congrFun hA _) _) rfl (by unfold big; omega) ?_
    refine JQ.stageC follows (EW_ok 60) (EW_mono 60) (m := 400) _ (lB (.i .u8 (b : Int)) (.i .u8 (c : Int))) bB q10_b (congrFun (congrFun hB _) _) rfl (by unfold big; omega) ?_
    refine JQ.stageC follows (EW_ok 60) (EW_mono 60) (m := 2000) _ (lC 7 sl7 (.sl (tp 1516) 0 1 112 none) (.i .u8 (b : Int)) (.i .u8 (c : Int))) [(330, 3, iL xs7)] q10_c (congrFun (congrFun hC _) _) rfl (by unfold big; omega) ?_
    exact hm_end 7 330 16 xs7 1516 112 b c hb' hc' rfl (by omega) (by omega) rfl (by omega) (by omega) (fun z hz => List.map_inj_left.1 e7 z hz) (by unfold xs7; simp) (x_at x7)
theorem hamming_walk (a b c : Nat) (ha : a ≤ 255) (hb : b ≤ 255) (hc : c ≤ 255) (W : World) : Calls Try.prog 10 #[.int .u8 (a : Int), .int .u8 (b : Int), .int .u8 (c : Int)] W fun e w' => e = .returned (.bool true) ∧ Below W.heap.size W w' :=
  lawC Try.func10 n10 b10 k10 r10 (args := .cons (.i .u8 (a : Int)) (.cons (.i .u8 (b : Int)) (.cons (.i .u8 (c : Int)) .nil))) (by simp [L.length]) rfl (hm_run a b c ha hb hc) (vs := [.int .u8 (a : Int), .int .u8 (b : Int), .int .u8 (c : Int)]) (fun g => ⟨_, _, rfl, rfl, _, _, rfl, rfl, _, _, rfl, rfl, rfl⟩) W
end Go.Proofs.Ytjhgingmbklhaaa.Ev
