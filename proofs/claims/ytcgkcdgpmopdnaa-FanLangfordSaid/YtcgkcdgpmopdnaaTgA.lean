/- FanLangford: kinds and width cut down; what is left is run for each of the few. -/
import Derived.Test.YtcgkcdgpmopdnaaTfW
import Derived.Test.YtcgkcdgpmopdnaaEvPd
namespace Go.Proofs.Ytcgkcdgpmopdnaa.Ev
set_option linter.unusedVariables false
set_option maxRecDepth 100000
open Go Go.Proofs Go.RowKit
noncomputable def q3 : IC := i3.q
noncomputable def res3 : List RV := i3.r
noncomputable def c3c : Code := match Try.f3.body with | some c => c | none => .skip
theorem b3 : Try.f3.body = some c3c := by kernel_rfl
theorem k3 : compC Try.prog drops Try.f3.ntmps c3c = some q3 := by kernel_rfl
theorem r3 : compRVs Try.prog Try.f3.results.toList = some res3 := by kernel_rfl
theorem n3 : (Try.f3.name == "runtime.NumGoroutine") = false := by kernel_rfl
noncomputable def s1 (w : Bool) (a : Nat) : Rs := runP (EK 60) 256 300 (q3.pcs 2) (.nor (bind (.cons (.i .u8 (a : Int)) (.cons (.b w) .nil)) 0 .lf) .lf 256)
theorem q3_s : q3 = seqs (q3.pcs 2) (q3.rst 2) := by kernel_rfl
noncomputable def hh (w : Bool) (k : Nat) : Hp := (Hp.lf.put (some ⟨4, 1, 1, .cons (.b w) .nil, .lf⟩) (tp 255)).put (some ⟨3, 1, 1, .cons (.n 0) .nil, .nd .lf (.n k) .lf⟩) (tp 256)
noncomputable def l1 : List (Nat × V) := [(3, .p (tp 255) 0), (4, .b false), (5, .p (tp 256) 0)]
theorem s1_t : (List.range 256).map (fun a => obs 300 [3, 4, 5] (s1 true a)) = (List.range 256).map fun a => (true, l1.map Prod.snd, hh true (a % 6 + 1)) := by kernel_rfl
theorem s1_f : (List.range 256).map (fun a => obs 300 [3, 4, 5] (s1 false a)) = (List.range 256).map fun a => (true, l1.map Prod.snd, hh false (a % 6 + 1)) := by kernel_rfl
noncomputable def tl (w : Bool) (r : Nat) : Bool := finR res3 ((kC (q3.rst 2) nK).f (EK 60) 256 (mkE l1) (hh w (r + 1)) 300)
end Go.Proofs.Ytcgkcdgpmopdnaa.Ev
