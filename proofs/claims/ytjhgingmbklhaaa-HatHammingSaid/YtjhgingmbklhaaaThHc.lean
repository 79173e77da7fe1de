/- HatHamming: what is left for its last line. -/
import Derived.Test.YtjhgingmbklhaaaThHb
namespace Go.Proofs.Ytjhgingmbklhaaa.Ev
set_option linter.unusedVariables false
set_option maxRecDepth 100000
open Go Go.Proofs Go.RowKit
noncomputable def ws7 : List Int := [1, 2, 3, 4, 5, 6, 8, 9, 10, 11, 12, 13, 14, 15, 16, 17, 18, 19, 20, 21, 22, 23, 24, 26, 27, 28, 29, 31, 32, 33, 34, 35, 36, 37, 38, 39, 40, 41, 43, 44, 46, 47, 48, 49, 50, 53, 54, 55, 56, 57, 58, 59, 60, 61, 62, 63, 64, 65, 66, 67, 68, 69, 70, 71, 72, 73, 74, 77, 78, 79, 80, 81, 83, 84, 86, 87, 88, 89, 90, 91, 92, 93, 94, 95, 96, 98, 99, 100, 101, 103, 104, 105, 106, 107, 108, 109, 110, 111, 112, 113, 114, 115, 116, 117, 118, 119, 121, 122, 123, 124, 125, 126]
noncomputable def lC (n : Nat) (s w : V) (u v : V) : List (Nat × V) := [(1, u), (2, v), (7, .n n), (8, s), (18, w), (19, .n 0)]
theorem hC : (fun u v => obsC 2000 ((lC 7 sl7 (.sl (tp 1516) 0 1 112 none) u v).map Prod.fst) [(330, 3, iL xs7)] (runP (EW 60) 256 2000 ((q10.rst 7).pcs 1) (.nor (mkE (lB u v)) (hpC bB) 400))) = fun u v => (true, (lC 7 sl7 (.sl (tp 1516) 0 1 112 none) u v).map Prod.snd, true) := by kernel_rfl
theorem h_1 : (fun u v => obsC 2000 ((lC 1 (.sl (tp 300) 0 1 1 none) (.sl (tp 327) 0 1 1 none) u v).map Prod.fst) [(300, 3, iL [0])] (runP (EW 60) 256 2000 ((q10.rst 2).pcs 6) (.nor (mkE [(1, u), (2, v), (7, .n 1)]) .lf 300))) = fun u v => (true, (lC 1 (.sl (tp 300) 0 1 1 none) (.sl (tp 327) 0 1 1 none) u v).map Prod.snd, true) := by kernel_rfl
theorem h_3 : (fun u v => obsC 2000 ((lC 3 (.sl (tp 302) 0 1 2 none) (.sl (tp 382) 0 1 6 none) u v).map Prod.fst) [(302, 3, iL [0, 7])] (runP (EW 60) 256 2000 ((q10.rst 2).pcs 6) (.nor (mkE [(1, u), (2, v), (7, .n 3)]) .lf 300))) = fun u v => (true, (lC 3 (.sl (tp 302) 0 1 2 none) (.sl (tp 382) 0 1 6 none) u v).map Prod.snd, true) := by kernel_rfl
/-- An element is found. -/
noncomputable def fnd (p len : Nat) (xs : List Int) (z : Int) : Bool := isX (.b true) (EW 60 46 (.cons (.sl (tp p) 0 1 len none) (.cons (I z) .nil)) 2000 (hpC [(p, 3, iL xs)]) 2000)
theorem f7 : (xs7.all fun z => fnd 330 16 xs7 z) = true := by kernel_rfl
theorem f3 : ([0, 7].all fun z => fnd 302 2 [0, 7] z) = true := by kernel_rfl
theorem f1 : ([0].all fun z => fnd 300 1 [0] z) = true := by kernel_rfl
end Go.Proofs.Ytjhgingmbklhaaa.Ev
