/- What serves laws whose middle is evaluated. -/
import Derived.Test.YtnpimbpbhbfchaaDoorTrW
namespace Go.Proofs.YtnpimbpbhbfchaaDoor.Ev
set_option linter.unusedVariables false
open Go Go.Proofs Go.RowKit
noncomputable def IC.fst (x : IC) : IC := match x with | .seq a _ => a | q => q
noncomputable def rsE (r : Rs) : Tr := Rs.rec (motive := fun _ => Tr) .lf (fun e _ _ => e) (fun _ _ _ _ => .lf) (fun _ _ _ => .lf) r
noncomputable def rsH (r : Rs) : Hp := Rs.rec (motive := fun _ => Hp) .lf (fun _ h _ => h) (fun _ _ _ _ => .lf) (fun _ _ _ => .lf) r
noncomputable def rsN (r : Rs) : Nat := Rs.rec (motive := fun _ => Nat) 0 (fun _ _ n => n) (fun _ _ _ _ => 0) (fun _ _ _ => 0) r
/-- A piece in the middle, evaluated. -/
theorem JQ.evK {P : Program} (hP : P.follows .mixedOrders = true) {dr : List Nat} {N lim n : Nat} {F : FF} (hF : FOK P F) (hM : F.mono) {qa qb : IC} {K : Rs → Prop} {e : Tr} {h : Hp} {e1 : Tr} {h1 : Hp} {n1 : Nat} (hk : (kC qa nK).f F lim e h n = .nor e1 h1 n1) (hn : n1 < big)
    (j : JQ P dr N F qb lim K e1 h1 n1) : JQ P dr N F (.seq qa qb) lim K e h n := by
  refine JQ.step hP hF hM ?_
  rw [kC_eq, onC_nK] at hk
  rw [hk]; exact ⟨hn, j⟩
end Go.Proofs.YtnpimbpbhbfchaaDoor.Ev
