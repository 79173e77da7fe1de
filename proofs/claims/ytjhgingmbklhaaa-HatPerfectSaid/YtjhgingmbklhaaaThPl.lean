/- HatPerfect: 2, 4, 5 or 6 helpers. -/
import Derived.Test.YtjhgingmbklhaaaThPi
namespace Go.Proofs.Ytjhgingmbklhaaa.Ev
set_option linter.unusedVariables false
set_option maxRecDepth 100000
open Go Go.Proofs Go.RowKit
theorem nb2 : (fun u => finR res5 ((kC q5 nK).f (EX 60) 256 (bind (.cons (I 2) (.cons u .nil)) 0 .lf) .lf 256)) = fun _ => true := by kernel_rfl
theorem nb5 : (fun u => finR res5 ((kC q5 nK).f (EX 60) 256 (bind (.cons (I 5) (.cons u .nil)) 0 .lf) .lf 256)) = fun _ => true := by kernel_rfl
theorem nb6 : (fun u => finR res5 ((kC q5 nK).f (EX 60) 256 (bind (.cons (I 6) (.cons u .nil)) 0 .lf) .lf 256)) = fun _ => true := by kernel_rfl
noncomputable def l4 : List (Nat × V) := [(0, I 4), (5, .ns), (6, .n 12), (7, .ns), (8, .n 12), (9, .n 0), (10, .n 12), (11, .n 0), (12, .n 12), (13, .sl (tp 766) 0 1 4 none), (14, .n 0), (15, .sl (tp 1766) 0 1 4 none), (16, .n 0)]
noncomputable def bl4 : List (Nat × TypeId × L) := [(766, 3, iL [0, 1, 14, 15]), (1766, 3, iL [0, 1, 14, 15])]
theorem q5_4 : q5 = seqs (q5.pcs 7) (q5.rst 7) := by kernel_rfl
theorem nb4a : (fun u => obsC 20000 (l4.map Prod.fst) bl4 (runP (EX 60) 256 20000 (q5.pcs 7) (.nor (bind (.cons (I 4) (.cons u .nil)) 0 .lf) .lf 256))) = fun _ => (true, l4.map Prod.snd, true) := by kernel_rfl
theorem nb4b : finR res5 ((kC (q5.rst 7) nK).f (EX 60) 256 (mkE l4) (hpC bl4) 20000) = true := by kernel_rfl
end Go.Proofs.Ytjhgingmbklhaaa.Ev
