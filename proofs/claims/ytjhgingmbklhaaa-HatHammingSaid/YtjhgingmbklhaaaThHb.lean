/- HatHamming: seven helpers, in three stages. -/
import Derived.Test.YtjhgingmbklhaaaThHa
import Derived.Test.YtjhgingmbklhaaaEvPf
namespace Go.Proofs.Ytjhgingmbklhaaa.Ev
set_option linter.unusedVariables false
set_option maxRecDepth 100000
open Go Go.Proofs Go.RowKit
noncomputable def xs7 : List Int := [0, 7, 25, 30, 42, 45, 51, 52, 75, 76, 82, 85, 97, 102, 120, 127]
theorem q10_a : q10.rst 2 = seqs ((q10.rst 2).pcs 3) (q10.rst 5) := by kernel_rfl
theorem q10_b : q10.rst 5 = seqs ((q10.rst 5).pcs 2) (q10.rst 7) := by kernel_rfl
theorem q10_c : q10.rst 7 = seqs ((q10.rst 7).pcs 1) (q10.rst 8) := by kernel_rfl
noncomputable def sl7 : V := .sl (tp 330) 0 1 16 none
noncomputable def lA (u v : V) : List (Nat × V) := [(1, u), (2, v), (7, .n 7), (8, sl7), (9, .n 0), (10, .sl (tp 331) 0 1 128 (some 128)), (11, .n 0), (12, .p (tp 356) 0), (13, .n 0)]
noncomputable def bP : List (Nat × TypeId × L) := [(335, 3, (iL [1, 2, 2, 0, 2, 2, 2, 2, 2, 2, 2, 2, 0, 2, 2, 1, 2, 2, 2, 2, 2, 1, 0, 2, 2, 0, 1, 2, 2, 2, 2, 2, 2, 2, 2, 2, 2, 0, 1, 2, 2, 1, 0, 2, 2, 2, 2, 2, 0, 2, 2, 1, 2, 2, 2, 2, 2, 2, 2, 2, 1, 2, 2, 0])), (338, 3, (iL [1, 2, 2, 0, 2, 2, 2, 2, 2, 2, 2, 2, 2, 1, 0, 2, 2, 2, 2, 2, 0, 2, 2, 1, 2, 0, 1, 2, 2, 2, 2, 2, 2, 2, 2, 2, 2, 0, 1, 2, 0, 2, 2, 1, 2, 2, 2, 2, 2, 1, 0, 2, 2, 2, 2, 2, 2, 2, 2, 2, 1, 2, 2, 0])), (341, 3, (iL [1, 2, 2, 0, 2, 2, 2, 2, 2, 2, 2, 2, 2, 1, 0, 2, 2, 2, 2, 2, 2, 0, 1, 2, 0, 2, 2, 1, 2, 2, 2, 2, 2, 2, 2, 2, 0, 2, 2, 1, 2, 0, 1, 2, 2, 2, 2, 2, 2, 1, 0, 2, 2, 2, 2, 2, 2, 2, 2, 2, 1, 2, 2, 0])), (344, 3, (iL [1, 2, 2, 2, 2, 2, 2, 1, 2, 0, 2, 2, 2, 2, 0, 2, 2, 2, 0, 2, 2, 0, 2, 2, 2, 2, 2, 1, 1, 2, 2, 2, 2, 2, 2, 0, 0, 2, 2, 2, 2, 2, 1, 2, 2, 1, 2, 2, 2, 1, 2, 2, 2, 2, 1, 2, 0, 2, 2, 2, 2, 2, 2, 0])), (347, 3, (iL [1, 2, 2, 2, 2, 2, 2, 1, 2, 0, 2, 2, 2, 2, 0, 2, 2, 2, 2, 0, 0, 2, 2, 2, 2, 2, 1, 2, 2, 1, 2, 2, 2, 2, 0, 2, 2, 0, 2, 2, 2, 2, 2, 1, 1, 2, 2, 2, 2, 1, 2, 2, 2, 2, 1, 2, 0, 2, 2, 2, 2, 2, 2, 0])), (350, 3, (iL [1, 2, 2, 2, 2, 2, 2, 1, 2, 2, 0, 2, 2, 0, 2, 2, 2, 2, 2, 0, 0, 2, 2, 2, 2, 1, 2, 2, 2, 2, 1, 2, 2, 0, 2, 2, 2, 2, 0, 2, 2, 2, 2, 1, 1, 2, 2, 2, 2, 2, 1, 2, 2, 1, 2, 2, 0, 2, 2, 2, 2, 2, 2, 0])), (353, 3, (iL [1, 2, 2, 2, 2, 2, 2, 1, 2, 2, 2, 0, 0, 2, 2, 2, 2, 2, 0, 2, 2, 0, 2, 2, 2, 1, 2, 2, 2, 2, 1, 2, 2, 0, 2, 2, 2, 2, 0, 2, 2, 2, 1, 2, 2, 1, 2, 2, 2, 2, 2, 1, 1, 2, 2, 2, 0, 2, 2, 2, 2, 2, 2, 0]))]
noncomputable def bA : List (Nat × TypeId × L) := (331, 3, iL (List.replicate 128 1)) :: (330, 3, iL xs7) :: (356, 24, .cons (.n 7) (.cons (.sl (tp 355) 0 1 7 none) .nil)) :: (355, 31, .cons (.sl (tp 335) 0 1 64 (some 64)) (.cons (.sl (tp 338) 0 1 64 (some 64)) (.cons (.sl (tp 341) 0 1 64 (some 64)) (.cons (.sl (tp 344) 0 1 64 (some 64)) (.cons (.sl (tp 347) 0 1 64 (some 64)) (.cons (.sl (tp 350) 0 1 64 (some 64)) (.cons (.sl (tp 353) 0 1 64 (some 64)) .nil))))))) :: bP
noncomputable def bB : List (Nat × TypeId × L) := (330, 3, iL xs7) :: (356, 24, .cons (.n 7) (.cons (.sl (tp 355) 0 1 7 none) .nil)) :: (355, 31, .cons (.sl (tp 335) 0 1 64 (some 64)) (.cons (.sl (tp 338) 0 1 64 (some 64)) (.cons (.sl (tp 341) 0 1 64 (some 64)) (.cons (.sl (tp 344) 0 1 64 (some 64)) (.cons (.sl (tp 347) 0 1 64 (some 64)) (.cons (.sl (tp 350) 0 1 64 (some 64)) (.cons (.sl (tp 353) 0 1 64 (some 64)) .nil))))))) :: bP
noncomputable def lB (u v : V) : List (Nat × V) := [(1, u), (2, v), (7, .n 7), (8, sl7), (12, .p (tp 356) 0)]
theorem hA : (fun u v => obsC 400 ((lA u v).map Prod.fst) bA (runP (EW 60) 256 400 ((q10.rst 2).pcs 3) (.nor (mkE [(1, u), (2, v), (7, .n 7)]) .lf 300))) = fun u v => (true, (lA u v).map Prod.snd, true) := by kernel_rfl
theorem hB : (fun u v => obsC 400 ((lB u v).map Prod.fst) bB (runP (EW 60) 256 400 ((q10.rst 5).pcs 2) (.nor (mkE (lA u v)) (hpC bA) 400))) = fun u v => (true, (lB u v).map Prod.snd, true) := by kernel_rfl
noncomputable def s7 (u v : V) : Rs := runP (EW 60) 256 100000 ((q10.rst 7).pcs 1) (.nor (mkE (lB u v)) (hpC bB) 400)
end Go.Proofs.Ytjhgingmbklhaaa.Ev
