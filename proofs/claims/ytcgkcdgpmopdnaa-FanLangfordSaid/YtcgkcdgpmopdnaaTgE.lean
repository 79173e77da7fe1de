/- FanLangford: the evaluator that answers for empty fans of six kinds what was worked out. -/
import Derived.Test.YtcgkcdgpmopdnaaTgD
import Derived.Test.YtcgkcdgpmopdnaaTgF
namespace Go.Proofs.Ytcgkcdgpmopdnaa.Ev
set_option linter.unusedVariables false
set_option maxRecDepth 100000
open Go Go.Proofs Go.RowKit
theorem ok15c : SOK Try.prog 15 (sE x15) := sE_ok Try.func15 n15 b15 k15 r15 (fun _ => rfl) fun el w cap =>
  JQ.finX follows (EK_ok 60) (EK_mono 60) rfl (by cases w; exact congrFun (congrFun d15f el) cap; exact congrFun (congrFun d15t el) cap)
theorem ok16c : SOK Try.prog 16 (sE x16) := sE_ok Try.func16 n16 b16 k16 r16 (fun _ => rfl) fun el w cap =>
  JQ.finX follows (EK_ok 60) (EK_mono 60) rfl (by cases w; exact congrFun (congrFun d16f el) cap; exact congrFun (congrFun d16t el) cap)
noncomputable def WG (G : FF) : FF := ovF 15 (sE x15) (ovF 16 (sE x16) (ovF 45 (spLI f45) (WW G)))
theorem WG_ok (G : FF) (h : FOK Try.prog G) : FOK Try.prog (WG G) := ovF_ok ok15c (ovF_ok ok16c (ovF_ok ok45 (WW_ok G h)))
theorem WG_mono (G : FF) (h : G.mono) : (WG G).mono := ovF_mono (sE_mo _) (ovF_mono (sE_mo _) (ovF_mono (spLI_mo _) (WW_mono G h)))
noncomputable def EL (d : Nat) : FF := EQ WG d
theorem EL_ok (d : Nat) : FOK Try.prog (EL d) := EQ_ok WG_mono WG_ok d
theorem EL_mono (d : Nat) : (EL d).mono := EQ_mono WG_mono d
noncomputable def tm (w : Bool) (r : Nat) : Bool := finR res3 ((kC (q3.rst 2) nK).f (EL 60) 256 (mkE l1) (hh w (r + 1)) 300)
end Go.Proofs.Ytcgkcdgpmopdnaa.Ev
