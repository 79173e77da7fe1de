/- The texts TqTw. -/
import Derived.Test.YtkdbnhjipnnhjaaQ18
import Derived.Test.YtkdbnhjipnnhjaaQ19
import Derived.Test.YtkdbnhjipnnhjaaQ20
import Derived.Test.YtkdbnhjipnnhjaaQ21
import Derived.Test.YtkdbnhjipnnhjaaQ22
import Derived.Test.YtkdbnhjipnnhjaaQ23
import Derived.Test.YtkdbnhjipnnhjaaQ24
import Derived.Test.YtkdbnhjipnnhjaaQ25
/- QuarrelTuran: all numbers. -/
namespace Go.Proofs.Ytkdbnhjipnnhjaa.Ev
set_option linter.unusedVariables false
set_option maxRecDepth 100000
open Go Go.Proofs Go.RowKit
theorem cat {f : Nat → Bool} {b : Nat} (h1 : ∀ i, i < b → f i = true) (h2 : f b = true) : ∀ i, i < b + 1 → f i = true := fun i h4 => by
  by_cases h : i < b
  · exact h1 i h
  · rw [show i = b by omega]; exact h2
theorem w_4_1_0 : ∀ i, i < 0 → chk 4 1 i = true := fun i h => absurd h (Nat.not_lt_zero i)
theorem w_4_1_1 : ∀ i, i < 1 → chk 4 1 i = true := cat w_4_1_0 u_4_1_0
theorem w_4_1_2 : ∀ i, i < 2 → chk 4 1 i = true := cat w_4_1_1 u_4_1_1
theorem w_4_1_3 : ∀ i, i < 3 → chk 4 1 i = true := cat w_4_1_2 u_4_1_2
theorem w_4_2_0 : ∀ i, i < 0 → chk 4 2 i = true := fun i h => absurd h (Nat.not_lt_zero i)
theorem w_4_2_1 : ∀ i, i < 1 → chk 4 2 i = true := cat w_4_2_0 u_4_2_0
theorem w_4_2_2 : ∀ i, i < 2 → chk 4 2 i = true := cat w_4_2_1 u_4_2_1
theorem w_4_2_3 : ∀ i, i < 3 → chk 4 2 i = true := cat w_4_2_2 u_4_2_2
theorem w_4_3_0 : ∀ i, i < 0 → chk 4 3 i = true := fun i h => absurd h (Nat.not_lt_zero i)
theorem w_4_3_1 : ∀ i, i < 1 → chk 4 3 i = true := cat w_4_3_0 u_4_3_0
theorem w_4_3_2 : ∀ i, i < 2 → chk 4 3 i = true := cat w_4_3_1 u_4_3_1
theorem w_4_3_3 : ∀ i, i < 3 → chk 4 3 i = true := cat w_4_3_2 u_4_3_2
theorem w_4_4_0 : ∀ i, i < 0 → chk 4 4 i = true := fun i h => absurd h (Nat.not_lt_zero i)
theorem w_4_4_1 : ∀ i, i < 1 → chk 4 4 i = true := cat w_4_4_0 u_4_4_0
theorem w_4_4_2 : ∀ i, i < 2 → chk 4 4 i = true := cat w_4_4_1 u_4_4_1
theorem w_4_4_3 : ∀ i, i < 3 → chk 4 4 i = true := cat w_4_4_2 u_4_4_2
theorem w_5_1_0 : ∀ i, i < 0 → chk 5 1 i = true := fun i h => absurd h (Nat.not_lt_zero i)
theorem w_5_1_1 : ∀ i, i < 1 → chk 5 1 i = true := cat w_5_1_0 u_5_1_0
theorem w_5_1_2 : ∀ i, i < 2 → chk 5 1 i = true := cat w_5_1_1 u_5_1_1
theorem w_5_1_3 : ∀ i, i < 3 → chk 5 1 i = true := cat w_5_1_2 u_5_1_2
theorem w_5_1_4 : ∀ i, i < 4 → chk 5 1 i = true := cat w_5_1_3 u_5_1_3
theorem w_5_1_5 : ∀ i, i < 5 → chk 5 1 i = true := cat w_5_1_4 u_5_1_4
theorem w_5_1_6 : ∀ i, i < 6 → chk 5 1 i = true := cat w_5_1_5 u_5_1_5
theorem w_5_1_7 : ∀ i, i < 7 → chk 5 1 i = true := cat w_5_1_6 u_5_1_6
theorem w_5_1_8 : ∀ i, i < 8 → chk 5 1 i = true := cat w_5_1_7 u_5_1_7
theorem w_5_1_9 : ∀ i, i < 9 → chk 5 1 i = true := cat w_5_1_8 u_5_1_8
theorem w_5_1_10 : ∀ i, i < 10 → chk 5 1 i = true := cat w_5_1_9 u_5_1_9
theorem w_5_2_0 : ∀ i, i < 0 → chk 5 2 i = true := fun i h => absurd h (Nat.not_lt_zero i)
theorem w_5_2_1 : ∀ i, i < 1 → chk 5 2 i = true := cat w_5_2_0 u_5_2_0
theorem w_5_2_2 : ∀ i, i < 2 → chk 5 2 i = true := cat w_5_2_1 u_5_2_1
theorem w_5_2_3 : ∀ i, i < 3 → chk 5 2 i = true := cat w_5_2_2 u_5_2_2
theorem w_5_2_4 : ∀ i, i < 4 → chk 5 2 i = true := cat w_5_2_3 u_5_2_3
theorem w_5_2_5 : ∀ i, i < 5 → chk 5 2 i = true := cat w_5_2_4 u_5_2_4
theorem w_5_2_6 : ∀ i, i < 6 → chk 5 2 i = true := cat w_5_2_5 u_5_2_5
theorem w_5_2_7 : ∀ i, i < 7 → chk 5 2 i = true := cat w_5_2_6 u_5_2_6
theorem w_5_2_8 : ∀ i, i < 8 → chk 5 2 i = true := cat w_5_2_7 u_5_2_7
theorem w_5_2_9 : ∀ i, i < 9 → chk 5 2 i = true := cat w_5_2_8 u_5_2_8
theorem w_5_2_10 : ∀ i, i < 10 → chk 5 2 i = true := cat w_5_2_9 u_5_2_9
theorem w_5_3_0 : ∀ i, i < 0 → chk 5 3 i = true := fun i h => absurd h (Nat.not_lt_zero i)
theorem w_5_3_1 : ∀ i, i < 1 → chk 5 3 i = true := cat w_5_3_0 u_5_3_0
theorem w_5_3_2 : ∀ i, i < 2 → chk 5 3 i = true := cat w_5_3_1 u_5_3_1
theorem w_5_3_3 : ∀ i, i < 3 → chk 5 3 i = true := cat w_5_3_2 u_5_3_2
theorem w_5_3_4 : ∀ i, i < 4 → chk 5 3 i = true := cat w_5_3_3 u_5_3_3
theorem w_5_3_5 : ∀ i, i < 5 → chk 5 3 i = true := cat w_5_3_4 u_5_3_4
theorem w_5_3_6 : ∀ i, i < 6 → chk 5 3 i = true := cat w_5_3_5 u_5_3_5
theorem w_5_3_7 : ∀ i, i < 7 → chk 5 3 i = true := cat w_5_3_6 u_5_3_6
theorem w_5_3_8 : ∀ i, i < 8 → chk 5 3 i = true := cat w_5_3_7 u_5_3_7
theorem w_5_3_9 : ∀ i, i < 9 → chk 5 3 i = true := cat w_5_3_8 u_5_3_8
theorem w_5_3_10 : ∀ i, i < 10 → chk 5 3 i = true := cat w_5_3_9 u_5_3_9
theorem w_5_4_0 : ∀ i, i < 0 → chk 5 4 i = true := fun i h => absurd h (Nat.not_lt_zero i)
theorem w_5_4_1 : ∀ i, i < 1 → chk 5 4 i = true := cat w_5_4_0 u_5_4_0
theorem w_5_4_2 : ∀ i, i < 2 → chk 5 4 i = true := cat w_5_4_1 u_5_4_1
theorem w_5_4_3 : ∀ i, i < 3 → chk 5 4 i = true := cat w_5_4_2 u_5_4_2
theorem w_5_4_4 : ∀ i, i < 4 → chk 5 4 i = true := cat w_5_4_3 u_5_4_3
theorem w_5_4_5 : ∀ i, i < 5 → chk 5 4 i = true := cat w_5_4_4 u_5_4_4
theorem w_5_4_6 : ∀ i, i < 6 → chk 5 4 i = true := cat w_5_4_5 u_5_4_5
theorem w_5_4_7 : ∀ i, i < 7 → chk 5 4 i = true := cat w_5_4_6 u_5_4_6
theorem w_5_4_8 : ∀ i, i < 8 → chk 5 4 i = true := cat w_5_4_7 u_5_4_7
theorem w_5_4_9 : ∀ i, i < 9 → chk 5 4 i = true := cat w_5_4_8 u_5_4_8
theorem w_5_4_10 : ∀ i, i < 10 → chk 5 4 i = true := cat w_5_4_9 u_5_4_9
theorem w_5_5_0 : ∀ i, i < 0 → chk 5 5 i = true := fun i h => absurd h (Nat.not_lt_zero i)
theorem w_5_5_1 : ∀ i, i < 1 → chk 5 5 i = true := cat w_5_5_0 u_5_5_0
theorem w_5_5_2 : ∀ i, i < 2 → chk 5 5 i = true := cat w_5_5_1 u_5_5_1
theorem w_5_5_3 : ∀ i, i < 3 → chk 5 5 i = true := cat w_5_5_2 u_5_5_2
theorem w_5_5_4 : ∀ i, i < 4 → chk 5 5 i = true := cat w_5_5_3 u_5_5_3
theorem w_5_5_5 : ∀ i, i < 5 → chk 5 5 i = true := cat w_5_5_4 u_5_5_4
theorem w_5_5_6 : ∀ i, i < 6 → chk 5 5 i = true := cat w_5_5_5 u_5_5_5
theorem w_5_5_7 : ∀ i, i < 7 → chk 5 5 i = true := cat w_5_5_6 u_5_5_6
theorem w_5_5_8 : ∀ i, i < 8 → chk 5 5 i = true := cat w_5_5_7 u_5_5_7
theorem w_5_5_9 : ∀ i, i < 9 → chk 5 5 i = true := cat w_5_5_8 u_5_5_8
theorem w_5_5_10 : ∀ i, i < 10 → chk 5 5 i = true := cat w_5_5_9 u_5_5_9
theorem chk_all (n k c : Nat) (hn : n = 4 ∨ n = 5) (h1 : 1 ≤ k) (h2 : k ≤ n) (hc : c < tpS n k) : chk n k c = true := by
  rcases hn with rfl | rfl
  · rcases (show k = 1 ∨ k = 2 ∨ k = 3 ∨ k = 4 by omega) with rfl | rfl | rfl | rfl
    · exact w_4_1_3 c hc
    · exact w_4_2_3 c hc
    · exact w_4_3_3 c hc
    · exact w_4_4_3 c hc
  · rcases (show k = 1 ∨ k = 2 ∨ k = 3 ∨ k = 4 ∨ k = 5 by omega) with rfl | rfl | rfl | rfl | rfl
    · exact w_5_1_10 c hc
    · exact w_5_2_10 c hc
    · exact w_5_3_10 c hc
    · exact w_5_4_10 c hc
    · exact w_5_5_10 c hc
noncomputable def eS (n k c : Nat) : Tr := mkE (lS n k c)
theorem eS_eq (n k c : Nat) : eS n k c = mkE (lS n k c) := rfl
theorem hS_eq (n k c : Nat) : hS n k c = bkH n (dS n k c).2.2 := rfl
theorem lS_all (n k c : Nat) : ((lS n k c).all fun x => decide (x.1 < 4294967296)) = true := rfl
theorem chkR_ok {n k c : Nat} {r : Rs} (h : chkR n k c r = true) : ∃ e' h' n', r = .nor e' h' n' ∧ EnvLe (eS n k (c + 1)) e' ∧ HpLe (hS n k (c + 1)) h' ∧ n' ≤ nnS (c + 1) := by
  unfold chkR at h
  rw [Bool.and_eq_true] at h
  obtain ⟨e', h', n', rfl, a1, _, a3⟩ := rndB_ok (lS_all _ _ _) h.1
  exact ⟨e', h', n', rfl, a1, bkB_le h.2, a3⟩
theorem tu_rd (n k c : Nat) (h : chk n k c = true) : ∃ e' h' n', itr (ER 60) 256 l4a (mS n k c) (.nor (eS n k c) (hS n k c) (nnS c)) = .nor e' h' n' ∧ EnvLe (eS n k (c + 1)) e' ∧ HpLe (hS n k (c + 1)) h' ∧ n' ≤ nnS (c + 1) := chkR_ok h
/-- The end of the loop, and what comes behind it. -/
noncomputable def lE (n k : Nat) : List (Nat × V) := lS n k (tpS n k)
noncomputable def bE (n k : Nat) : List (Nat × TypeId × L) := match (dS n k (tpS n k)).2.2 with
  | .kn p l => [(p, 40, fsL n l)]
  | _ => []
noncomputable def enB (n k : Nat) : Bool := exB 0 (nnS 200) (lE n k) (bE n k) ((kC l4a nK).f (ER 60) 256 (mkE (lE n k)) (hpC (bE n k)) (nnS (tpS n k)))
noncomputable def feB (n k : Nat) : Bool := finR res4 ((kC (q4.rst 8) nK).f (ER 60) 256 (mkE (lE n k)) (hpC (bE n k)) (nnS 200))
theorem enB4 : ((List.range 4).all fun k => enB 4 (k + 1)) = true := by kernel_rfl
theorem enB5 : ((List.range 5).all fun k => enB 5 (k + 1)) = true := by kernel_rfl
theorem feB4 : ((List.range 4).all fun k => feB 4 (k + 1)) = true := by kernel_rfl
theorem feB5_1 : feB 5 1 = true := by kernel_rfl
theorem feB5_2 : feB 5 2 = true := by kernel_rfl
theorem feB5_3 : feB 5 3 = true := by kernel_rfl
theorem feB5_4 : feB 5 4 = true := by kernel_rfl
theorem feB5_5 : feB 5 5 = true := by kernel_rfl
theorem hE_4_1 : hS 4 1 (tpS 4 1) = hpC (bE 4 1) := by kernel_rfl
theorem hE_4_2 : hS 4 2 (tpS 4 2) = hpC (bE 4 2) := by kernel_rfl
theorem hE_4_3 : hS 4 3 (tpS 4 3) = hpC (bE 4 3) := by kernel_rfl
theorem hE_4_4 : hS 4 4 (tpS 4 4) = hpC (bE 4 4) := by kernel_rfl
theorem hE_5_1 : hS 5 1 (tpS 5 1) = hpC (bE 5 1) := by kernel_rfl
theorem hE_5_2 : hS 5 2 (tpS 5 2) = hpC (bE 5 2) := by kernel_rfl
theorem hE_5_3 : hS 5 3 (tpS 5 3) = hpC (bE 5 3) := by kernel_rfl
theorem hE_5_4 : hS 5 4 (tpS 5 4) = hpC (bE 5 4) := by kernel_rfl
theorem hE_5_5 : hS 5 5 (tpS 5 5) = hpC (bE 5 5) := by kernel_rfl
theorem lE_all (n k : Nat) : ((lE n k).all fun x => decide (x.1 < 4294967296)) = true := rfl
theorem eE (n k : Nat) : eS n k (tpS n k) = mkE (lE n k) := rfl
theorem tu_end (n k : Nat) (hE : hS n k (tpS n k) = hpC (bE n k)) (h : enB n k = true) : ∃ e' h' n', (kC l4a nK).f (ER 60) 256 (eS n k (tpS n k)) (hS n k (tpS n k)) (nnS (tpS n k)) = .ext 0 e' h' n' ∧ EnvLe (mkE (lE n k)) e' ∧ HpLe (hpC (bE n k)) h' ∧ n' ≤ nnS 200 := by
  rw [hE, eE]
  exact exB_ok (l := lE n k) (bl := bE n k) (lE_all n k) h
theorem tu_nn (c : Nat) : c ≤ 199 → nnS c < big := by unfold big nnS; omega
/-! The stages. -/
noncomputable def m1 (n : Nat) (v : V) : List (Nat × V) := [(1, v), (5, .n n)]
noncomputable def m2 (n k : Nat) : List (Nat × V) := [(5, .n n), (6, .n k)]
noncomputable def m3 (n k : Nat) : List (Nat × V) := [(5, .n n), (6, .n k), (7, .n (Mt n k)), (9, .n 0), (10, .ns)]
theorem q4_s : q4 = seqs (q4.pcs 2) (q4.rst 2) := by kernel_rfl
theorem q4_t : q4.rst 2 = seqs ((q4.rst 2).pcs 1) (q4.rst 3) := by kernel_rfl
theorem q4_u : q4.rst 3 = seqs ((q4.rst 3).pcs 4) (q4.rst 7) := by kernel_rfl
noncomputable def s1 (a : Nat) (v : V) : Rs := runP (ER 60) 256 1000 (q4.pcs 2) (.nor (bind (.cons (.i .u8 (.ofNat a)) (.cons v .nil)) 0 .lf) .lf 256)
theorem hs1 : (fun v => (List.range 256).map fun a => stg [] 1000 ((m1 (1 + a % 5) v).map Prod.fst) (s1 a v)) = fun v => (List.range 256).map fun a => stgIs [] (m1 (1 + a % 5) v) := by kernel_rfl
noncomputable def s2 (n b : Nat) : Rs := runP (ER 60) 256 2000 ((q4.rst 2).pcs 1) (.nor (mkE (m1 n (.i .u8 (.ofNat b)))) (tabH []) 1000)
theorem hs2 : ((List.range 5).map fun n => (List.range 256).map fun b => stg [] 2000 ((m2 (1 + n) (1 + b % (1 + n))).map Prod.fst) (s2 (1 + n) b)) = (List.range 5).map fun n => (List.range 256).map fun b => stgIs [] (m2 (1 + n) (1 + b % (1 + n))) := by kernel_rfl
noncomputable def s3 (n k : Nat) : Rs := runP (ER 60) 256 2500 ((q4.rst 3).pcs 4) (.nor (mkE (m2 n k)) (tabH []) 2000)
theorem hs34 : ((List.range 4).map fun k => stg [] 2500 ((m3 4 (k + 1)).map Prod.fst) (s3 4 (k + 1))) = (List.range 4).map fun k => stgIs [] (m3 4 (k + 1)) := by kernel_rfl
theorem hs35 : ((List.range 5).map fun k => stg [] 2500 ((m3 5 (k + 1)).map Prod.fst) (s3 5 (k + 1))) = (List.range 5).map fun k => stgIs [] (m3 5 (k + 1)) := by kernel_rfl
theorem hs4 : ((List.range 4).map fun k => obsC 3000 ((lS 4 (k + 1) 0).map Prod.fst) [] (runP (ER 60) 256 3000 [q4m] (.nor (mkE (m3 4 (k + 1))) (tabH []) 2500))) = (List.range 4).map fun k => (true, (lS 4 (k + 1) 0).map Prod.snd, true) := by kernel_rfl
theorem hs5 : ((List.range 5).map fun k => obsC 3000 ((lS 5 (k + 1) 0).map Prod.fst) [] (runP (ER 60) 256 3000 [q4m] (.nor (mkE (m3 5 (k + 1))) (tabH []) 2500))) = (List.range 5).map fun k => (true, (lS 5 (k + 1) 0).map Prod.snd, true) := by kernel_rfl
noncomputable def te (n k : Nat) : Bool := finR res4 ((kC (q4.rst 3) nK).f (ER 60) 256 (mkE (m2 n k)) (tabH []) 2000)
theorem te_1 : te 1 1 = true := by kernel_rfl
theorem te_2 : ((List.range 2).all fun k => te 2 (k + 1)) = true := by kernel_rfl
theorem te_3 : ((List.range 3).all fun k => te 3 (k + 1)) = true := by kernel_rfl
theorem tu_loop (n k : Nat) {K : Rs → Prop} (hT : tpS n k ≤ 199) (hms : ∀ c, c < tpS n k → 0 < mS n k c ∧ mS n k c ≤ 128) (h0 : hS n k 0 = hpC []) (hE : hS n k (tpS n k) = hpC (bE n k)) (hc : ∀ c, c < tpS n k → chk n k c = true) (he : enB n k = true) (hK : ∀ e' h' n', EnvLe (mkE (lE n k)) e' → HpLe (hpC (bE n k)) h' → n' ≤ nnS 200 → K (.ext 0 e' h' n')) : JQ Try.prog drops Try.f4.ntmps (ER 60) (.loop l4a) 256 K (mkE (lS n k 0)) (hpC []) 3000 := by
  obtain ⟨e', h', n', hr, h1, h2, h3⟩ := tu_end n k hE he
  exact JQ.countN follows (ER_ok 60) (ER_mono 60) 128 (tpS n k) (mS n k) hms (eS n k) (hS n k) nnS (fun c hc => tu_nn c (by omega)) (by rw [eS_eq]; exact EnvLe.refl _) (by rw [h0]; exact HpLe.refl _) (by decide) (fun c h => tu_rd n k c (hc c h)) ⟨0, e', h', n', hr, Nat.lt_of_le_of_lt h3 (by unfold big nnS; omega), hK e' h' n' h1 h2 h3⟩
theorem tu_big (n k : Nat) (hT : tpS n k ≤ 199) (hms : ((List.range (tpS n k)).all fun c => decide (0 < mS n k c ∧ mS n k c ≤ 128)) = true) (h0 : hS n k 0 = hpC []) (hE : hS n k (tpS n k) = hpC (bE n k)) (hc : ∀ c, c < tpS n k → chk n k c = true) (he : enB n k = true) (hf : feB n k = true) (h3 : stg [] 2500 ((m3 n k).map Prod.fst) (s3 n k) = stgIs [] (m3 n k))
    (h4 : obsC 3000 ((lS n k 0).map Prod.fst) [] (runP (ER 60) 256 3000 [q4m] (.nor (mkE (m3 n k)) (tabH []) 2500)) = (true, (lS n k 0).map Prod.snd, true)) :
    JQ Try.prog drops Try.f4.ntmps (ER 60) (q4.rst 3) 256 (Kend res4 (Good 0 (.v (.b true)))) (mkE (m2 n k)) (tabH []) 2000 := by
  refine JQ.stages follows (ER_ok 60) (ER_mono 60) (m := 2500) ((q4.rst 3).pcs 4) (l := m3 n k) (tabs := []) q4_u h3 rfl (by unfold big; omega) ?_
  rw [q4_m]
  refine JQ.seq ?_
  refine JQ.stageC follows (ER_ok 60) (ER_mono 60) (m := 3000) [q4m] (lS n k 0) [] (show _ = seqs [q4m] (.block 0 (.loop l4a)) from rfl) h4 rfl (by unfold big; omega) ?_
  refine JQ.block ?_
  refine tu_loop n k hT (fun c h => of_decide_eq_true (List.all_eq_true.1 hms c (List.mem_range.2 h))) h0 hE hc he fun e' h' n' a1 a2 a3 => ?_
  simp only [Kblk, if_true, Kseq]
  exact JQ.later a3 (JQ.weak a1 a2 (JQ.fin follows (ER_ok 60) (ER_mono 60) hf))
theorem tu_rest (n k : Nat) (h1 : 1 ≤ n) (h2 : n ≤ 5) (h3 : 1 ≤ k) (h4 : k ≤ n) : JQ Try.prog drops Try.f4.ntmps (ER 60) (q4.rst 3) 256 (Kend res4 (Good 0 (.v (.b true)))) (mkE (m2 n k)) (tabH []) 2000 := by
  have small : ∀ {n k}, te n k = true → JQ Try.prog drops Try.f4.ntmps (ER 60) (q4.rst 3) 256 (Kend res4 (Good 0 (.v (.b true)))) (mkE (m2 n k)) (tabH []) 2000 := fun h => JQ.fin follows (ER_ok 60) (ER_mono 60) h
  obtain ⟨j, rfl⟩ : ∃ j, k = j + 1 := ⟨k - 1, by omega⟩
  rcases (show n = 1 ∨ n = 2 ∨ n = 3 ∨ n = 4 ∨ n = 5 by omega) with rfl | rfl | rfl | rfl | rfl
  · obtain rfl : j = 0 := by omega
    exact small te_1
  · exact small (List.all_eq_true.1 te_2 j (List.mem_range.2 (by omega)))
  · exact small (List.all_eq_true.1 te_3 j (List.mem_range.2 (by omega)))
  · have hj : j ∈ List.range 4 := List.mem_range.2 (by omega)
    rcases (show j = 0 ∨ j = 1 ∨ j = 2 ∨ j = 3 by omega) with rfl | rfl | rfl | rfl
    · exact tu_big 4 1 (by decide) (by kernel_rfl) rfl hE_4_1 (fun c hc => chk_all 4 1 c (.inl rfl) (by omega) h4 hc) (List.all_eq_true.1 enB4 _ hj) (List.all_eq_true.1 feB4 _ hj) (List.map_inj_left.1 hs34 _ hj) (List.map_inj_left.1 hs4 _ hj)
    · exact tu_big 4 2 (by decide) (by kernel_rfl) rfl hE_4_2 (fun c hc => chk_all 4 2 c (.inl rfl) (by omega) h4 hc) (List.all_eq_true.1 enB4 _ hj) (List.all_eq_true.1 feB4 _ hj) (List.map_inj_left.1 hs34 _ hj) (List.map_inj_left.1 hs4 _ hj)
    · exact tu_big 4 3 (by decide) (by kernel_rfl) rfl hE_4_3 (fun c hc => chk_all 4 3 c (.inl rfl) (by omega) h4 hc) (List.all_eq_true.1 enB4 _ hj) (List.all_eq_true.1 feB4 _ hj) (List.map_inj_left.1 hs34 _ hj) (List.map_inj_left.1 hs4 _ hj)
    · exact tu_big 4 4 (by decide) (by kernel_rfl) rfl hE_4_4 (fun c hc => chk_all 4 4 c (.inl rfl) (by omega) h4 hc) (List.all_eq_true.1 enB4 _ hj) (List.all_eq_true.1 feB4 _ hj) (List.map_inj_left.1 hs34 _ hj) (List.map_inj_left.1 hs4 _ hj)
  · have hj : j ∈ List.range 5 := List.mem_range.2 (by omega)
    rcases (show j = 0 ∨ j = 1 ∨ j = 2 ∨ j = 3 ∨ j = 4 by omega) with rfl | rfl | rfl | rfl | rfl
    · exact tu_big 5 1 (by decide) (by kernel_rfl) rfl hE_5_1 (fun c hc => chk_all 5 1 c (.inr rfl) (by omega) h4 hc) (List.all_eq_true.1 enB5 _ hj) feB5_1 (List.map_inj_left.1 hs35 _ hj) (List.map_inj_left.1 hs5 _ hj)
    · exact tu_big 5 2 (by decide) (by kernel_rfl) rfl hE_5_2 (fun c hc => chk_all 5 2 c (.inr rfl) (by omega) h4 hc) (List.all_eq_true.1 enB5 _ hj) feB5_2 (List.map_inj_left.1 hs35 _ hj) (List.map_inj_left.1 hs5 _ hj)
    · exact tu_big 5 3 (by decide) (by kernel_rfl) rfl hE_5_3 (fun c hc => chk_all 5 3 c (.inr rfl) (by omega) h4 hc) (List.all_eq_true.1 enB5 _ hj) feB5_3 (List.map_inj_left.1 hs35 _ hj) (List.map_inj_left.1 hs5 _ hj)
    · exact tu_big 5 4 (by decide) (by kernel_rfl) rfl hE_5_4 (fun c hc => chk_all 5 4 c (.inr rfl) (by omega) h4 hc) (List.all_eq_true.1 enB5 _ hj) feB5_4 (List.map_inj_left.1 hs35 _ hj) (List.map_inj_left.1 hs5 _ hj)
    · exact tu_big 5 5 (by decide) (by kernel_rfl) rfl hE_5_5 (fun c hc => chk_all 5 5 c (.inr rfl) (by omega) h4 hc) (List.all_eq_true.1 enB5 _ hj) feB5_5 (List.map_inj_left.1 hs35 _ hj) (List.map_inj_left.1 hs5 _ hj)
theorem tu_run (a b : Nat) (ha : a ≤ 255) (hb : b ≤ 255) : JQ Try.prog drops Try.f4.ntmps (ER 60) q4 256 (Kend res4 (Good 0 (.v (.b true)))) (bind (.cons (.i .u8 (a : Int)) (.cons (.i .u8 (b : Int)) .nil)) 0 .lf) .lf 256 := by
  have h5 : a % 5 < 5 := Nat.mod_lt _ (by omega)
  have hm : b % (1 + a % 5) < 1 + a % 5 := Nat.mod_lt _ (by omega)
  refine JQ.stages follows (ER_ok 60) (ER_mono 60) (m := 1000) (q4.pcs 2) (l := m1 (1 + a % 5) (.i .u8 (b : Int))) (tabs := []) q4_s (List.map_inj_left.1 (congrFun hs1 (.i .u8 (b : Int))) a (List.mem_range.2 (by omega))) rfl (by unfold big; omega) ?_
  refine JQ.stages follows (ER_ok 60) (ER_mono 60) (m := 2000) ((q4.rst 2).pcs 1) (l := m2 (1 + a % 5) (1 + b % (1 + a % 5))) (tabs := []) q4_t (List.map_inj_left.1 (List.map_inj_left.1 hs2 (a % 5) (List.mem_range.2 h5)) b (List.mem_range.2 (by omega))) rfl (by unfold big; omega) ?_
  exact tu_rest _ _ (by omega) (by omega) (by omega) (by omega)
theorem wf_u8 {b : Int} (h : (Lit.int .u8 b).wf = true) : ∃ a : Nat, b = a ∧ a ≤ 255 := by
  simp [Lit.wf] at h
  have h1 : IntKind.u8.min = 0 := by decide
  have h2 : IntKind.u8.max = 255 := by decide
  rw [h1, h2] at h
  exact ⟨b.toNat, by omega, by omega⟩
theorem tu_walk (a b : Nat) (ha : a ≤ 255) (hb : b ≤ 255) (w : World) : Calls Try.prog 4 #[.int .u8 (a : Int), .int .u8 (b : Int)] w fun e w' => e = .returned (.bool true) ∧ Below w.heap.size w w' :=
  lawC Try.func4 n4 b4 k4 r4 (args := .cons (.i .u8 (a : Int)) (.cons (.i .u8 (b : Int)) .nil)) (by simp [L.length]) rfl (tu_run a b ha hb) (vs := [.int .u8 (a : Int), .int .u8 (b : Int)]) (fun g => ⟨_, _, rfl, rfl, _, _, rfl, rfl, rfl⟩) w
end Go.Proofs.Ytkdbnhjipnnhjaa.Ev
