/- The texts TqQw, TqT1. -/
import Derived.Test.YtkdbnhjipnnhjaaQ9
import Derived.Test.YtkdbnhjipnnhjaaQ10
import Derived.Test.YtkdbnhjipnnhjaaQ11
import Derived.Test.YtkdbnhjipnnhjaaQ12
import Derived.Test.YtkdbnhjipnnhjaaQ13
import Derived.Test.YtkdbnhjipnnhjaaQ14
import Derived.Test.YtkdbnhjipnnhjaaQ15
import Derived.Test.YtkdbnhjipnnhjaaQ16
/- The largest brawl of each house of five people, as a contract. -/
namespace Go.Proofs.Ytkdbnhjipnnhjaa.Ev
set_option linter.unusedVariables false
set_option maxRecDepth 100000
open Go Go.Proofs Go.RowKit
theorem rl_seg {i b : Nat} (h : ((List.range 32).all fun j => rl (j + 32 * i)) = true) (hb : b / 32 = i) : rl b = true := by
  have h2 := List.all_eq_true.1 h (b % 32) (List.mem_range.2 (Nat.mod_lt _ (by omega)))
  rwa [show b % 32 + 32 * i = b by omega] at h2
theorem rl_all (b : Nat) (h : b < 1024) : rl b = true := by
  have h1 : b / 32 < 32 := by omega
  rcases (show b / 32 = 0 ∨ b / 32 = 1 ∨ b / 32 = 2 ∨ b / 32 = 3 ∨ b / 32 = 4 ∨ b / 32 = 5 ∨ b / 32 = 6 ∨ b / 32 = 7 ∨ b / 32 = 8 ∨ b / 32 = 9 ∨ b / 32 = 10 ∨ b / 32 = 11 ∨ b / 32 = 12 ∨ b / 32 = 13 ∨ b / 32 = 14 ∨ b / 32 = 15 ∨ b / 32 = 16 ∨ b / 32 = 17 ∨ b / 32 = 18 ∨ b / 32 = 19 ∨ b / 32 = 20 ∨ b / 32 = 21 ∨ b / 32 = 22 ∨ b / 32 = 23 ∨ b / 32 = 24 ∨ b / 32 = 25 ∨ b / 32 = 26 ∨ b / 32 = 27 ∨ b / 32 = 28 ∨ b / 32 = 29 ∨ b / 32 = 30 ∨ b / 32 = 31 by omega) with h2 | h2 | h2 | h2 | h2 | h2 | h2 | h2 | h2 | h2 | h2 | h2 | h2 | h2 | h2 | h2 | h2 | h2 | h2 | h2 | h2 | h2 | h2 | h2 | h2 | h2 | h2 | h2 | h2 | h2 | h2 | h2
  · exact rl_seg (i := 0) rq_0 h2
  · exact rl_seg (i := 1) rq_1 h2
  · exact rl_seg (i := 2) rq_2 h2
  · exact rl_seg (i := 3) rq_3 h2
  · exact rl_seg (i := 4) rq_4 h2
  · exact rl_seg (i := 5) rq_5 h2
  · exact rl_seg (i := 6) rq_6 h2
  · exact rl_seg (i := 7) rq_7 h2
  · exact rl_seg (i := 8) rq_8 h2
  · exact rl_seg (i := 9) rq_9 h2
  · exact rl_seg (i := 10) rq_10 h2
  · exact rl_seg (i := 11) rq_11 h2
  · exact rl_seg (i := 12) rq_12 h2
  · exact rl_seg (i := 13) rq_13 h2
  · exact rl_seg (i := 14) rq_14 h2
  · exact rl_seg (i := 15) rq_15 h2
  · exact rl_seg (i := 16) rq_16 h2
  · exact rl_seg (i := 17) rq_17 h2
  · exact rl_seg (i := 18) rq_18 h2
  · exact rl_seg (i := 19) rq_19 h2
  · exact rl_seg (i := 20) rq_20 h2
  · exact rl_seg (i := 21) rq_21 h2
  · exact rl_seg (i := 22) rq_22 h2
  · exact rl_seg (i := 23) rq_23 h2
  · exact rl_seg (i := 24) rq_24 h2
  · exact rl_seg (i := 25) rq_25 h2
  · exact rl_seg (i := 26) rq_26 h2
  · exact rl_seg (i := 27) rq_27 h2
  · exact rl_seg (i := 28) rq_28 h2
  · exact rl_seg (i := 29) rq_29 h2
  · exact rl_seg (i := 30) rq_30 h2
  · exact rl_seg (i := 31) rq_31 h2
noncomputable def isT (v : V) : Bool := onB v (fun x => x) false
noncomputable def bitsOf (w : L) : Nat := List.foldr (fun c s => Nat.add (Nat.mul 2 s) (Bool.rec 0 1 (isT (w.get c)))) 0 [1, 2, 10, 3, 11, 19, 4, 12, 20, 28]
noncomputable def oLg (b : Nat) : Out := .sl 3 1 (pe (lgm b)).length none (iL (pe (lgm b)))
noncomputable def sLg (args : L) (_ : Nat) (h : Hp) (n : Nat) : Res := match args with
  | .cons (.ag w) (.cons (.n k) .nil) => Bool.rec .no ((oLg (bitsOf w)).res h n) (and (Nat.beq k 5) (and (Nat.blt (bitsOf w) 1024) (eqL w (fL 5 (bitsOf w) .nil))))
  | _ => .no
theorem sLg_mo : SMo sLg := fun args lim h n => by
  unfold sLg
  split
  · rename_i w k
    cases and (Nat.beq k 5) (and (Nat.blt (bitsOf w) 1024) (eqL w (fL 5 (bitsOf w) .nil)))
    · trivial
    · exact Out.res_ge _ _ _
  · trivial
theorem fL_pur : (fun b => (L.cons (.ag (fL 5 b .nil)) (.cons (.n 5) .nil)).pur) = fun _ => true := by kernel_rfl
theorem okLg : SOK Try.prog 13 sLg := fun args lim h n v h' n' hr => by
  unfold sLg at hr
  split at hr
  · rename_i w k
    cases hb : and (Nat.beq k 5) (and (Nat.blt (bitsOf w) 1024) (eqL w (fL 5 (bitsOf w) .nil)))
    · rw [hb] at hr; cases hr
    · rw [hb] at hr
      rw [Bool.and_eq_true, Bool.and_eq_true, Nat.beq_eq, Nat.blt_eq] at hb
      obtain ⟨rfl, h1, h2⟩ := hb
      have hw := eqL_eq _ _ h2
      generalize bitsOf w = b at *
      subst hw
      have hl : (iL (pe (lgm b))).pur = true ∧ (iL (pe (lgm b))).length = (pe (lgm b)).length * 1 := ⟨iL_pur _, by rw [iL_len]; omega⟩
      have hj := JQ.finS (dr := drops) (N := Try.f13.ntmps) follows (EP_ok 60) (EP_mono 60) hl (rl_all b h1)
      rw [← q13_i] at hj
      exact outC Try.func13 n13 b13 k13 r13 (Ins.none h) (by simp [L.length]) (ren_nil_rel (congrFun fL_pur b)) (oLg b) hl hj lim n hr
  · cases hr
noncomputable def WR (G : FF) : FF := ovF 13 sLg (WP G)
theorem WR_mono (G : FF) (h : G.mono) : (WR G).mono := ovF_mono sLg_mo (WP_mono G h)
theorem WR_ok (G : FF) (h : FOK Try.prog G) : FOK Try.prog (WR G) := ovF_ok okLg (WP_ok G h)
noncomputable def ER (d : Nat) : FF := EQ WR d
theorem ER_ok (d : Nat) : FOK Try.prog (ER d) := EQ_ok WR_mono WR_ok d
theorem ER_mono (d : Nat) : (ER d).mono := EQ_mono WR_mono d
end Go.Proofs.Ytkdbnhjipnnhjaa.Ev
/- QuarrelTuran: what stands ahead of some houses each; the stages. -/
namespace Go.Proofs.Ytkdbnhjipnnhjaa.Ev
set_option linter.unusedVariables false
set_option maxRecDepth 100000
open Go Go.Proofs Go.RowKit
def dl_4_1 : List (Nat × Nat × Bk) := [(0, 0, .no), (22, 0, .kn 3038 [0]), (44, 0, .kn 3038 [0]), (64, 0, .kn 3038 [0])]
def dl_4_2 : List (Nat × Nat × Bk) := [(0, 0, .no), (22, 3, .un 3733 5), (44, 4, .kn 11377 [30]), (64, 4, .kn 19238 [30, 45, 51])]
def dl_4_3 : List (Nat × Nat × Bk) := [(0, 0, .no), (22, 4, .un 3537 1), (44, 5, .kn 11303 [31]), (64, 5, .kn 19444 [31, 47, 55, 59, 61, 62])]
def dl_4_4 : List (Nat × Nat × Bk) := [(0, 0, .no), (22, 4, .un 3537 1), (44, 5, .un 11303 1), (64, 6, .kn 19496 [63])]
def dl_5_1 : List (Nat × Nat × Bk) := [(0, 0, .no), (112, 0, .kn 3008 [0]), (224, 0, .kn 3008 [0]), (336, 0, .kn 3008 [0]), (448, 0, .kn 3008 [0]), (560, 0, .kn 3008 [0]), (672, 0, .kn 3008 [0]), (784, 0, .kn 3008 [0]), (896, 0, .kn 3008 [0]), (1008, 0, .kn 3008 [0]), (1024, 0, .kn 3008 [0])]
def dl_5_2 : List (Nat × Nat × Bk) := [(0, 0, .no), (112, 5, .un 4599 2), (224, 6, .kn 12787 [222]), (336, 6, .kn 12787 [222]), (448, 6, .kn 28735 [222, 365, 435]), (560, 6, .kn 36094 [222, 365, 435, 504]), (672, 6, .kn 44141 [222, 365, 435, 504, 627]), (784, 6, .kn 52312 [222, 365, 435, 504, 627, 685, 742]), (896, 6, .kn 60254 [222, 365, 435, 504, 627, 685, 742, 798, 853]), (1008, 6, .kn 67198 [222, 365, 435, 504, 627, 685, 742, 798, 853, 907]), (1024, 6, .kn 67198 [222, 365, 435, 504, 627, 685, 742, 798, 853, 907])]
def dl_5_3 : List (Nat × Nat × Bk) := [(0, 0, .no), (112, 6, .un 4603 2), (224, 7, .un 12792 1), (336, 7, .un 19566 6), (448, 7, .un 28948 18), (560, 8, .kn 36237 [507, 509, 510]), (672, 8, .kn 36237 [507, 509, 510]), (784, 8, .kn 52778 [507, 509, 510, 751, 759, 766]), (896, 8, .kn 61026 [507, 509, 510, 751, 759, 766, 863, 887, 893]), (1008, 8, .kn 69168 [507, 509, 510, 751, 759, 766, 863, 887, 893, 927, 943, 955, 990, 1005]), (1024, 8, .kn 75085 [507, 509, 510, 751, 759, 766, 863, 887, 893, 927, 943, 955, 990, 1005, 1011])]
def dl_5_4 : List (Nat × Nat × Bk) := [(0, 0, .no), (112, 6, .un 4590 3), (224, 7, .un 12763 3), (336, 8, .un 19592 1), (448, 8, .un 28940 3), (560, 9, .kn 36235 [511]), (672, 9, .kn 36235 [511]), (784, 9, .kn 52793 [511, 767]), (896, 9, .kn 61065 [511, 767, 895]), (1008, 9, .kn 69199 [511, 767, 895, 959, 991, 1007]), (1024, 9, .kn 75351 [511, 767, 895, 959, 991, 1007, 1015, 1019, 1021, 1022])]
def dl_5_5 : List (Nat × Nat × Bk) := [(0, 0, .no), (112, 6, .un 4590 3), (224, 7, .un 12763 3), (336, 8, .un 19592 1), (448, 8, .un 28940 3), (560, 9, .un 36235 1), (672, 9, .un 36235 1), (784, 9, .un 52793 2), (896, 9, .un 61065 3), (1008, 9, .un 69199 6), (1024, 10, .kn 75381 [1023])]
def dl (n k : Nat) : List (Nat × Nat × Bk) := match n, k with
  | 4, 1 => dl_4_1
  | 4, 2 => dl_4_2
  | 4, 3 => dl_4_3
  | 4, 4 => dl_4_4
  | 5, 1 => dl_5_1
  | 5, 2 => dl_5_2
  | 5, 3 => dl_5_3
  | 5, 4 => dl_5_4
  | 5, 5 => dl_5_5
  | _, _ => []
def Mt (n k : Nat) : Nat := match n, k with
  | 4, 1 => 0
  | 4, 2 => 4
  | 4, 3 => 5
  | 4, 4 => 6
  | 5, 1 => 0
  | 5, 2 => 6
  | 5, 3 => 8
  | 5, 4 => 9
  | 5, 5 => 10
  | _, _ => 0
def tpS (n k : Nat) : Nat := match n, k with
  | 4, 1 => 3
  | 4, 2 => 3
  | 4, 3 => 3
  | 4, 4 => 3
  | 5, 1 => 10
  | 5, 2 => 10
  | 5, 3 => 10
  | 5, 4 => 10
  | 5, 5 => 10
  | _, _ => 0
def dS (n k c : Nat) : Nat × Nat × Bk := (dl n k).getD c (0, 0, .no)
def nnS (c : Nat) : Nat := 3000 + 8000 * c
def mS (n k c : Nat) : Nat := (dS n k (c + 1)).1 - (dS n k c).1
noncomputable def lS (n k c : Nat) : List (Nat × V) := let d := dS n k c; stl n k (Mt n k) d.2.1 d.2.2.p d.2.2.len d.1
noncomputable def hS (n k c : Nat) : Hp := bkH n (dS n k c).2.2
noncomputable def chkR (n k c : Nat) (r : Rs) : Bool := and (rndB (nnS (c + 1)) (lS n k (c + 1)) [] r) (bkB n (pcH r) (dS n k (c + 1)).2.2)
noncomputable def chk (n k c : Nat) : Bool := chkR n k c (itr (ER 60) 256 l4a (mS n k c) (.nor (mkE (lS n k c)) (hS n k c) (nnS c)))
end Go.Proofs.Ytkdbnhjipnnhjaa.Ev
