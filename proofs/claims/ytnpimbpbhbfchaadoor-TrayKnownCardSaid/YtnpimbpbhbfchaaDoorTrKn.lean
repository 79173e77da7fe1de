/- The examples of chapter 8, evaluated. -/
import Derived.Test.YtnpimbpbhbfchaaDoorTrIr
namespace Go.Proofs.YtnpimbpbhbfchaaDoor.Ev
set_option linter.unusedVariables false
open Go Go.Proofs Go.RowKit
theorem known_eval : (fun el => okR (EF 40 6 .nil (gK + 1) (tbH el) (gK + 1))) = fun _ => true := by kernel_rfl
theorem known_walk (w : World) (el : TypeId) (hw : Holds w [(1, el, kL .u8 zs64)]) : Calls Tryd.prog 6 #[] w fun e w' => e = .returned (.bool true) ∧ Below w.heap.size w w' :=
  ranTBF (EF_ok 40) [(1, el, kL .u8 zs64)] (congrFun known_eval el) (vs := []) (fun _ => rfl) w hw
end Go.Proofs.YtnpimbpbhbfchaaDoor.Ev
