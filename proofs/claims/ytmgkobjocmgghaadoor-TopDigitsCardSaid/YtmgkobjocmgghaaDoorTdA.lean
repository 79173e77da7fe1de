/- TopDigits: its first two pieces at each number; what they leave depends on the number's rest alone. -/
import Derived.Test.YtmgkobjocmgghaaDoorEvZ
import Derived.Test.YtmgkobjocmgghaaDoorTdIr
namespace Go.Proofs.YtmgkobjocmgghaaDoor.Ev
open Go Go.Proofs Go.RowKit
noncomputable def tdC0 : Code := match Tryd.f3.body with | some (.seq a _) => a | _ => .skip
noncomputable def tdC1 : Code := match Tryd.f3.body with | some (.seq _ (.seq a _)) => a | _ => .skip
noncomputable def tdC2 : Code := match Tryd.f3.body with | some (.seq _ (.seq _ a)) => a | _ => .skip
theorem td_body : Tryd.f3.body = some (.seq tdC0 (.seq tdC1 tdC2)) := by kernel_rfl
noncomputable def tdQ0 : IC := (compC Tryd.prog drops Tryd.f3.ntmps tdC0).getD .skip
noncomputable def tdQ1 : IC := (compC Tryd.prog drops Tryd.f3.ntmps tdC1).getD .skip
noncomputable def tdQ2 : IC := (compC Tryd.prog drops Tryd.f3.ntmps tdC2).getD .skip
theorem td_k0 : compC Tryd.prog drops Tryd.f3.ntmps tdC0 = some tdQ0 := by kernel_rfl
theorem td_k1 : compC Tryd.prog drops Tryd.f3.ntmps tdC1 = some tdQ1 := by kernel_rfl
theorem td_k2 : compC Tryd.prog drops Tryd.f3.ntmps tdC2 = some tdQ2 := by kernel_rfl
noncomputable def tdRes : List RV := (compRVs Tryd.prog Tryd.f3.results.toList).getD []
theorem td_res : compRVs Tryd.prog Tryd.f3.results.toList = some tdRes := by kernel_rfl
noncomputable def tdH (el : Nat) : Hp := tabH [(1, el, kL .u8 zs64)]
noncomputable def tdF : FF := evF (FT.of FS) 20
noncomputable def tdArg (a : Nat) : L := .cons (.i .u8 (Int.ofNat a)) .nil
noncomputable def rsE : Rs → Tr := Rs.rec (motive := fun _ => Tr) .lf (fun e _ _ => e) (fun _ e _ _ => e) (fun e _ _ => e)
noncomputable def tdR0 (el a : Nat) : Rs := evC tdQ0 tdF (gK + 1) (bind (tdArg a) 0 .lf) (tdH el) (gK + 1)
noncomputable def tdE0 (el a : Nat) : Tr := rsE (tdR0 el a)
noncomputable def tdR1 (el a : Nat) : Rs := evC tdQ1 tdF (gK + 1) (tdE0 el a) (tdH el) (gK + 1)
noncomputable def tdE1 (el a : Nat) : Tr := rsE (tdR1 el a)
noncomputable def tdK (el a : Nat) : Tr := kill (tdE1 el a) [tp 0, tp 16, tp 17]
theorem td_h0 : (fun el => (List.range 256).map (tdR0 el)) = fun el => (List.range 256).map fun a => .nor (tdE0 el a) (tdH el) (gK + 1) := by kernel_rfl
theorem td_h1 : (fun el => (List.range 256).map (tdR1 el)) = fun el => (List.range 256).map fun a => .nor (tdE1 el a) (tdH el) (gK + 1) := by kernel_rfl
theorem td_same : (fun el => (List.range 256).map (tdK el)) = fun el => (List.range 256).map fun a => tdK el (a % 32) := by kernel_rfl
noncomputable def tdT (el r : Nat) : Bool := okR (tailR tdQ2 tdRes tdF (tdK el r) (tdH el) (gK + 1))
end Go.Proofs.YtmgkobjocmgghaaDoor.Ev
