/- FanLangford: the completions of empty fans of six kinds, counted, and the first one of them: each is worked out by itself. -/
import Derived.Test.YtcgkcdgpmopdnaaTgA
namespace Go.Proofs.Ytcgkcdgpmopdnaa.Ev
set_option linter.unusedVariables false
set_option maxRecDepth 100000
open Go Go.Proofs Go.RowKit
theorem ag_rel' {g g' : Sig} {l l' : L} (h : ∀ us, L.rel g l us → L.rel g' l' us) : ∀ u, V.rel g (.ag l) u → V.rel g' (.ag l') u := ag_rel h
noncomputable def zs12 : List Int := List.replicate 12 0
/-- What is answered for an empty fan of six kinds. -/
noncomputable def sE (x : Bool → V) (args : L) (_ : Nat) (h : Hp) (n : Nat) : Res := match args with
  | .cons (.ag (.cons k (.cons (.b w) (.cons sv .nil)))) .nil => if asI k = some 6 ∧ rdL h sv = some zs12 then .ok (x w) h n else .no
  | _ => .no
theorem sE_mo (x : Bool → V) : SMo (sE x) := fun args lim h n => by
  unfold sE
  split
  · split
    · exact Nat.le_refl n
    · trivial
  · trivial
section
variable {P : Program} {dr : List Nat} {F : FF} {q : IC} {f : Nat} {fn : Func} {c : Code} {res : List RV}
theorem sE_ok (hfn : P.funcs[f]? = some fn) (hnm : (fn.name == "runtime.NumGoroutine") = false) (hb : fn.body = some c) (hq : compC P dr fn.ntmps c = some q) (hres : compRVs P fn.results.toList = some res) {x : Bool → V} (hx : ∀ w, (x w).pur = true)
    (run : ∀ el w cap, JQ P dr fn.ntmps F q 257 (Kend res (Good 1 (.v (x w)))) (bind (.cons (.ag (.cons (I 6) (.cons (.b w) (.cons (.sl (tp 255) 0 1 12 cap) .nil)))) .nil) 0 .lf) (hp0 [blkL el (iL zs12)] 255) 257) : SOK P f (sE x) := fun args lim h n v h' n' hr => by
  unfold sE at hr
  split at hr
  · rename_i k w sv
    split at hr
    · rename_i hc
      obtain ⟨hk, hl⟩ := hc
      unfold rdL at hl
      split at hl
      · simp [zs12] at hl
      · rename_i p off len cap
        obtain ⟨el, I1⟩ := Ins.one hl
        obtain ⟨e1, _⟩ := win hl
        have e2 : len = 12 := by rw [← e1]; simp [zs12]
        subst e2
        refine outC hfn hnm hb hq hres I1 (args0 := .cons (.ag (.cons (I 6) (.cons (.b w) (.cons (.sl (tp 255) 0 1 12 cap) .nil)))) .nil) (by simp [L.length]) (fun g => rel_cons (ag_rel (rel_cons (fun u hu => I_any hk g _ u hu) (rel_cons (fun u hu => V.pur_rel rfl hu) (rel_cons (fun u hu => sl_ren (j := 0) (by omega) rfl hu) fun _ h => L.pur_rel rfl h)))) fun _ h => L.pur_rel rfl h) (.v (x w)) (hx w) (run el w cap) lim n ?_
        cases hr; rfl
      · cases hl
    · cases hr
  · cases hr
end
noncomputable def q15 : IC := i15.q
noncomputable def res15 : List RV := i15.r
noncomputable def c15c : Code := match Try.f15.body with | some c => c | none => .skip
theorem b15 : Try.f15.body = some c15c := by kernel_rfl
theorem k15 : compC Try.prog drops Try.f15.ntmps c15c = some q15 := by kernel_rfl
theorem r15 : compRVs Try.prog Try.f15.results.toList = some res15 := by kernel_rfl
theorem n15 : (Try.f15.name == "runtime.NumGoroutine") = false := by kernel_rfl
noncomputable def q16 : IC := i16.q
noncomputable def res16 : List RV := i16.r
noncomputable def c16c : Code := match Try.f16.body with | some c => c | none => .skip
theorem b16 : Try.f16.body = some c16c := by kernel_rfl
theorem k16 : compC Try.prog drops Try.f16.ntmps c16c = some q16 := by kernel_rfl
theorem r16 : compRVs Try.prog Try.f16.results.toList = some res16 := by kernel_rfl
theorem n16 : (Try.f16.name == "runtime.NumGoroutine") = false := by kernel_rfl
noncomputable def x15 (_ : Bool) : V := .tu (.cons (.ag (.cons (.n 0) (.cons (.b false) (.cons .ns .nil)))) (.cons (.n 12) .nil))
noncomputable def x16 (_ : Bool) : V := .tu (.cons (.n 0) (.cons (.n 0) .nil))
noncomputable def e6 (w : Bool) (cap : Option Nat) : Tr := bind (.cons (.ag (.cons (I 6) (.cons (.b w) (.cons (.sl (tp 255) 0 1 12 cap) .nil)))) .nil) 0 .lf
noncomputable def yc15 (w : Bool) (el : Nat) (cap : Option Nat) : Bool := finX (x15 w) res15 ((kC q15 nK).f (EK 60) 257 (e6 w cap) (hp0 [blkL el (iL zs12)] 255) 257)
noncomputable def yc16 (w : Bool) (el : Nat) (cap : Option Nat) : Bool := finX (x16 w) res16 ((kC q16 nK).f (EK 60) 257 (e6 w cap) (hp0 [blkL el (iL zs12)] 255) 257)
end Go.Proofs.Ytcgkcdgpmopdnaa.Ev
