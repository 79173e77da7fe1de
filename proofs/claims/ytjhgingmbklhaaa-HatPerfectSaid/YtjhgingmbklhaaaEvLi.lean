/- Contracts of functions of a list of ints and an int. -/
import Derived.Test.YtjhgingmbklhaaaEvSh
namespace Go.Proofs.Ytjhgingmbklhaaa.Ev
set_option linter.unusedVariables false
open Go Go.Proofs Go.RowKit
noncomputable def spLI (f : List Int → Int → Out) (args : L) (_ : Nat) (h : Hp) (n : Nat) : Res := match args with
  | .cons (.sl p off esz len cap) (.cons u .nil) => (match asI u with | some z => onL (rdL h (.sl p off esz len cap)) (fun xs => f xs z) h n | none => .no)
  | _ => .no
theorem spLI_mo (f : List Int → Int → Out) : SMo (spLI f) := fun args lim h n => by
  unfold spLI; split <;> (try split) <;> first | exact onL_ge _ _ _ _ | trivial
theorem spLI_ok {P : Program} {dr : List Nat} {F : FF} {q : IC} {f : Nat} {fn : Func} {c : Code} {res : List RV} (hfn : P.funcs[f]? = some fn) (hnm : (fn.name == "runtime.NumGoroutine") = false) (hb : fn.body = some c) (hq : compC P dr fn.ntmps c = some q) (hres : compRVs P fn.results.toList = some res)
    {o : List Int → Int → Out} (ho : ∀ xs z, OutOK (o xs z))
    (run : ∀ el xs z cap, o xs z ≠ .no → JQ P dr fn.ntmps F q 257 (Kend res (Good 1 (o xs z))) (bind (.cons (.sl (tp 255) 0 1 xs.length cap) (.cons (I z) .nil)) 0 .lf) (hp0 [blkL el (iL xs)] 255) 257) : SOK P f (spLI o) := fun args lim h n v h' n' hr => by
  have hno : ∀ {x : Out}, x.res h n = .ok v h' n' → x ≠ .no := fun {x} e e' => by subst e'; cases e
  unfold spLI at hr
  split at hr
  · rename_i p off esz len cap u
    split at hr
    · rename_i z hz
      unfold onL at hr
      split at hr
      · rename_i xs hx
        unfold rdL at hx
        split at hx
        · rename_i h1; cases h1
        · rename_i h1
          cases h1
          obtain ⟨el, I1⟩ := Ins.one hx
          obtain ⟨e1, _⟩ := win hx
          subst e1
          exact outC hfn hnm hb hq hres I1 (by simp [L.length]) (fun g => rel_cons (fun u hu => sl_ren (j := 0) (by omega) rfl hu) (rel_cons (fun u hu => I_any hz g _ u hu) fun _ h => L.pur_rel rfl h)) _ (ho xs z) (run el xs z cap (hno hr)) lim n hr
        · cases hx
      · cases hr
    · cases hr
  · cases hr
end Go.Proofs.Ytjhgingmbklhaaa.Ev
