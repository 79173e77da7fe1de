/- The examples of chapter 4, evaluated once for all. -/
import Derived.Test.YtcgkcdgpmopdnaaTfE
import Derived.Test.YtcgkcdgpmopdnaaEvPc
namespace Go.Proofs.Ytcgkcdgpmopdnaa.Ev
set_option linter.unusedVariables false
open Go Go.Proofs Go.RowKit
noncomputable def EP (d : Nat) : FF := EQ WF d
theorem EP_ok (d : Nat) : FOK Try.prog (EP d) := EQ_ok WF_mono WF_ok d
theorem EP_mono (d : Nat) : (EP d).mono := EQ_mono WF_mono d
theorem fw_eval : okR (EP 60 17 .nil 256 .lf 256) = true := by kernel_rfl
noncomputable def sW (args : L) (_ : Nat) (h : Hp) (n : Nat) : Res := match args with
  | .nil => .ok (.b true) h n
  | .cons _ _ => .no
theorem sW_mo : SMo sW := fun args lim h n => by
  unfold sW
  cases args with
  | nil => exact Nat.le_refl n
  | cons => trivial
theorem okW : SOK Try.prog 17 sW := fun args lim h n v h' n' hr => by
  cases args with
  | cons => cases hr
  | nil =>
    cases hr
    obtain ⟨h1, n1, h2, h3⟩ := okR_ok fw_eval
    exact callsAny rfl ((EP_ok 60).1 17 .nil 256 .lf 256 _ _ _ h2) h3 rfl rfl lim h n
noncomputable def WW (G : FF) : FF := ov 17 sW (WF G)
theorem WW_ok (G : FF) (h : FOK Try.prog G) : FOK Try.prog (WW G) := ov_ok okW (WF_ok G h)
theorem WW_mono (G : FF) (h : G.mono) : (WW G).mono := ov_mono sW_mo (WF_mono G h)
noncomputable def EK (d : Nat) : FF := EQ WW d
theorem EK_ok (d : Nat) : FOK Try.prog (EK d) := EQ_ok WW_mono WW_ok d
theorem EK_mono (d : Nat) : (EK d).mono := EQ_mono WW_mono d
end Go.Proofs.Ytcgkcdgpmopdnaa.Ev
