/- The evaluator: operations, regions, code, functions. -/
import Derived.Test.YtjhgingmbklhaaaEvY
import Derived.Test.YtjhgingmbklhaaaEvSt
import Derived.Test.YtjhgingmbklhaaaEvMp
import Derived.Test.YtjhgingmbklhaaaEvIt
import Derived.CallsIn
import Derived.OrdersIn
namespace Go.Proofs.Ytjhgingmbklhaaa.Ev
set_option linter.unusedVariables false
open Go

inductive O where
  | mv (x : X) | pick (c a b : X) | bin (op : BinOp) (x y : X) | eqb (neg : Bool) (x y : X) | not (x : X) | neg (x : X) | conv (k : IntKind) (x : X) | ext (i : Nat) (x : X) | mkf (f : Nat) (a c : XL) | nilck (x : X)
  | fad (k : Nat) (x : X) | ixa (len esz : Nat) (x i : X) | ixs (esz : Nat) (x i : X) | len (x : X) | cap (x : X) | build (z : L) (ps : PL) | part (off n : Nat) (agg : Bool) (x : X) | idx (len esz : Nat) (agg : Bool) (x i : X)
  | alloc (el : TypeId) (z : L) (zl : Nat) | box (el : TypeId) (x : X) | ld (n : Nat) (agg : Bool) (x : X) | st (n : Nat) (x y : X) | bsl (el esz len : Nat) (z : L) (ps : PL) | mks (el esz by_ zl : Nat) (z : L) (xl xc : X)
  | slc (esz : Nat) (x : X) (xl xh xm : Option X) | sla (len esz : Nat) (x : X) (xl xh xm : Option X) | app (el esz by_ : Nat) (s x : X) | mm (mx : Bool) (x : X) (xs : XL)
  | eqa (neg : Bool) (sh : Sh) (x y : X) | eqn (neg : Bool) (x y : X)
  | call (f : Nat) (xs : XL) | callv (x : X) (xs : XL)
  | slen (x : X) | six (x i : X) | sbi (op : BinOp) (x y : X) | ssl (x : X) (xl xh : Option X) | b2s (x : X) | s2b (el : TypeId) (x : X) | cpy (x y : X) | mkm | lkp (k : KK) (z : V) (ok : Bool) (x i : X) | mup (k : KK) (x i y : X) | mln (x : X) | rng (x : X) | nxt (x : X) | r2s (x : X) | nope

/-- What calls do: the function, its arguments, below which place nothing is written, the memory, the next place. -/
abbrev FF := Nat → L → Nat → Hp → Nat → Res

noncomputable def evCall (f : Nat) (xs : XL) (F : FF) (e : Tr) (lim : Nat) (h : Hp) (n : Nat) : Res := F f (evXL xs e) lim h n
noncomputable def onF {β : Type} (v : V) (f : Nat → L → L → β) (z : β) : β := FV.rec (motive := fun _ => β) z f v.asF
noncomputable def onY {β : Type} (v : V) (f : Pos → β) (z : β) : β := MV.rec (motive := fun _ => β) z z f v.asY
/-- The number under which a function table holds what yields do; the mark of their arguments. -/
def YID : Nat := 1099511627776
def yM : V := .lp 0 #[] .skip .skip
noncomputable def evCallv (x : X) (xs : XL) (F : FF) (e : Tr) (lim : Nat) (h : Hp) (n : Nat) : Res := onF (evX x e) (fun f a c => F f (a.app ((evXL xs e).app c)) lim h n) (onY (evX x e) (fun p => F YID (.cons yM (.cons (.yl p) (evXL xs e))) lim h n) .no)

noncomputable def O.ev : O → FF → Tr → Nat → Hp → Nat → Res :=
  O.rec (motive := fun _ => FF → Tr → Nat → Hp → Nat → Res)
    (fun x _ => evMv x) (fun c a b _ => evPick c a b) (fun op x y _ => evBin op x y) (fun n x y _ => evEqb n x y) (fun x _ => evNot x) (fun x _ => evNeg x) (fun k x _ => evConv k x) (fun i x _ => evExt i x) (fun f a c _ => evMkf f a c) (fun x _ => evNilck x)
    (fun k x _ => evFad k x) (fun l s x i _ => evIxa l s x i) (fun s x i _ => evIxs s x i) (fun x _ => evLen x) (fun x _ => evCap x) (fun z ps _ => evBuild z ps) (fun o n a x _ => evPart o n a x) (fun l s a x i _ => evIdx l s a x i)
    (fun el z zl _ => evAlloc el z zl) (fun el x _ => evBox el x) (fun n a x _ => evLd n a x) (fun n x y _ => evSt n x y) (fun el s l z ps _ => evBsl el s l z ps) (fun el s b zl z xl xc _ => evMks el s b zl z xl xc)
    (fun s x a b c _ => evSlc s x a b c) (fun l s x a b c _ => evSla l s x a b c) (fun el s b x y _ => evApp el s b x y) (fun m x xs _ => evMm m x xs) (fun n sh x y _ => evEqa n sh x y) (fun n x y _ => evEqn n x y)
    (fun f xs => evCall f xs) (fun x xs => evCallv x xs)
    (fun x _ => evSlen x) (fun x i _ => evSix x i) (fun op x y _ => evSbi op x y) (fun x a b _ => evSsl x a b) (fun x _ => evB2s x) (fun el x _ => evS2b el x) (fun x y _ => evCpy x y) (fun _ => evMkm) (fun k z ok x i _ => evLkp k z ok x i) (fun k x i y _ => evMup k x i y) (fun x _ => evMln x) (fun x _ => evRng x) (fun x _ => evNxt x) (fun x _ => evR2s x) (fun _ _ _ _ _ => .no)

/-- What is said of a function's calls. -/
def CallsOK (P : Program) (f : Nat) (args : L) (lim : Nat) (h : Hp) (n : Nat) (v : V) (h' : Hp) (n' : Nat) : Prop :=
  ∀ vs g w, args.rel g vs → GOK g → Mem g h.get w → Dom h.get n → Fresh g n n' → n' < 9223372036854775808 →
    (∃ fn, P.funcs[f]? = some fn ∧ (fn.name == "runtime.NumGoroutine") = false ∧ fn.body.isSome = true) ∧
    Calls P f ⟨vs⟩ w fun e w' => ∃ u g', e = .returned u ∧ v.rel g' u ∧ Mem g' h'.get w' ∧ Fr lim n g h.get w n' g' h'.get w'
/-- What is said of a yield's calls. -/
def YldOK (P : Program) (p : Pos) (args : L) (lim : Nat) (h : Hp) (n : Nat) (v : V) (h' : Hp) (n' : Nat) : Prop :=
  ∀ vs g w r, g p = some (r, 1, 0) → args.rel g vs → GOK g → Mem g h.get w → Dom h.get n → Fresh g n n' → n' < 9223372036854775808 →
    ∃ fn tmps assign body, (Instr.yield r ⟨vs⟩).run P w = .ok (.round r fn tmps assign body) w ∧ RoundIn Fence.wide 0 P r fn tmps assign body w fun e w' => ∃ u g', e = .returned u ∧ v.rel g' u ∧ Mem g' h'.get w' ∧ Fr lim n g h.get w n' g' h'.get w'
def YOK (P : Program) (F : FF) : Prop := ∀ p args lim h n v h' n', F YID (.cons yM (.cons (.yl p) args)) lim h n = .ok v h' n' → YldOK P p args lim h n v h' n'
def FOK (P : Program) (F : FF) : Prop := (∀ f args lim h n v h' n', F f args lim h n = .ok v h' n' → CallsOK P f args lim h n v h' n') ∧ YOK P F

/-- No fence; within a round of a loop, or not. -/
def fw (ro : Option Nat) : Fence := { Fence.wide with round := ro }
theorem fw_fn (ro : Option Nat) (f : FuncId) : (fw ro).fn f := trivial
theorem fw_room (ro : Option Nat) (n : Nat) : (fw ro).room n := fun _ h => by simp [fw, Fence.wide] at h
theorem fw_depth (ro : Option Nat) (n : Nat) : (fw ro).depth.isSome = true → 1 ≤ n := fun h => by simp [fw, Fence.wide] at h
theorem callsIn_fw {ro : Option Nat} {n : Nat} {P : Program} {f : FuncId} {args : Array Value} {w : World} {R : Ending → World → Prop} (h : Calls P f args w R) : CallsIn (fw ro) n P f args w R :=
  ⟨trivial, fun cs _ => (callsIn_wide (n := n).2 h).2 cs (room_wide _)⟩
theorem wpIn_none {n : Nat} {P : Program} {c : Code} {Q : Exit → Act → World → Prop} {a : Act} {w : World} (h : c.wpIn (fw none) n P Q a w) : c.wp P Q a w := wpIn_wide.1 h
theorem exec_defer {P : Program} {o : Oper} {c : Call} (hc : o.op = .defer c) {ρ : Operand → Value} {w w' : World} {nx : Next} (h : (execOp ρ o).run P w = .ok nx w') : ∃ d, nx = .defer d := by
  simp only [execOp, hc, Sem.run_bind] at h
  cases hr : (resolve ρ c o.type).run P w with
  | ok d w1 => rw [hr] at h; simp [Result.andThen] at h; exact ⟨d, h.1.symm⟩
  | halt x w1 => rw [hr] at h; simp [Result.andThen] at h

def OpWP (P : Program) (o : Oper) (ev : Tr → Nat → Hp → Nat → Res) : Prop :=
  ∀ e lim h n v h' n', ev e lim h n = .ok v h' n' → ∀ (a : Act) g w, EnvOK g e a.eval → Mem g h.get w → Dom h.get n → Fresh g n n' → n' < 9223372036854775808 →
    ∀ (ro : Option Nat) (K : Act → World → Prop) (Q : Exit → Act → World → Prop), (∀ u g' w', v.rel g' u → Mem g' h'.get w' → Fr lim n g h.get w n' g' h'.get w' → K (a.put o.dst u) w') → o.wpIn (fw ro) 0 P a w K Q

section
variable {P : Program} {o : Oper}
theorem OpOK.wp {ev : Tr → Nat → Hp → Nat → Res} (h : OpOK P o ev) : OpWP P o ev := by
  intro e lim hp n v h' n' hr a g w he m hd hf hn ro K Q hK
  obtain ⟨nx, g', w', h1, h2, h3, h4⟩ := h e lim hp n v h' n' hr a.eval g w he m hd hf hn
  refine ⟨fun _ _ => trivial, ?_⟩
  have hs : o.semAt (fw ro).round a.eval = execOp a.eval o := Oper.semAt_eq ro _ o fun c hc => by
    obtain ⟨d, rfl⟩ := exec_defer hc h1
    exact h2.elim
  rw [hs, h1]
  cases nx with
  | value u => exact hK u g' w' h2 h3 h4
  | skip => exact hK undef g' w' h2 h3 h4
  | _ => exact h2.elim

theorem wp_calls {ro : Option Nat} {f : Nat} {vs : List Value} {args : L} {lim : Nat} {h : Hp} {n : Nat} {v : V} {h' : Hp} {n' : Nat} (hc : CallsOK P f args lim h n v h' n') {a : Act} {g : Sig} {w : World} (hr : args.rel g vs) (hgk : GOK g) (m : Mem g h.get w) (hd : Dom h.get n) (hf : Fresh g n n') (hn : n' < 9223372036854775808)
    (hx : ∀ fn, P.funcs[f]? = some fn → (fn.name == "runtime.NumGoroutine") = false → fn.body.isSome = true → (execOp a.eval o).run P w = .ok (.enter f ⟨vs⟩) w)
    {K : Act → World → Prop} {Q : Exit → Act → World → Prop} (hK : ∀ u g' w', v.rel g' u → Mem g' h'.get w' → Fr lim n g h.get w n' g' h'.get w' → K (a.put o.dst u) w') : o.wpIn (fw ro) 0 P a w K Q := by
  obtain ⟨⟨fn, h1, h2, h3⟩, hcalls⟩ := hc vs g w hr hgk m hd hf hn
  have hx1 := hx fn h1 h2 h3
  refine ⟨fun _ _ => trivial, ?_⟩
  have hs : o.semAt (fw ro).round a.eval = execOp a.eval o := Oper.semAt_eq ro _ o fun c hc => by
    obtain ⟨d, hd⟩ := exec_defer hc hx1
    cases hd
  rw [hs, hx1]
  refine ⟨fw_depth ro 0, callsIn_fw (hcalls.mono fun e w' ⟨u, g', he, hr, hm, hfr⟩ => ?_)⟩
  subst he
  exact hK u g' w' hr hm hfr

theorem ok_call {F : FF} (hF : FOK P F) {f : Nat} {as : Array Operand} {ats : Array TypeId} {xs : XL} (hs : compXL as.toList = some xs) (ho : o.op = .call { callee := .value (.func f), args := as, argTypes := ats }) : OpWP P o (evCall f xs F) := by
  intro e lim h n v h' n' hr a g w he m hd hf hn ro K Q hK
  refine wp_calls (hF.1 _ _ _ _ _ _ _ _ hr) (evXL_rel he _ hs) (he.gok fun _ => rfl) m hd hf hn (fun fn h1 h2 h3 => ?_) hK
  have h3' : fn.body.isNone = false := by cases hb : fn.body <;> simp_all
  simp at h2
  simp [execOp, ho, resolve, Act.eval, Deferred.ofValue, invoke, callFunc, h1, h2, ← Array.toList_map]
  intro hb
  rw [hb] at h3; simp at h3

theorem ok_callv {F : FF} (hF : FOK P F) {ox : Operand} {as : Array Operand} {ats : Array TypeId} {x : X} {xs : XL} (hx : compX ox = some x) (hs : compXL as.toList = some xs) (ho : o.op = .call { callee := .value ox, args := as, argTypes := ats }) : OpWP P o (evCallv x xs F) := by
  intro e lim h n v h' n' hr a g w he m hd hf hn ro K Q hK
  have rx := he ox x hx
  unfold evCallv at hr
  cases hxv : evX x e <;> rw [hxv] at hr rx <;> dsimp only [onF, V.asF, onY, V.asY] at hr
  case fn f la lc =>
    rw [V.rel] at rx
    obtain ⟨va, vc, hv, ra, rc⟩ := rx
    refine wp_calls (hF.1 _ _ _ _ _ _ _ _ hr) (L.rel_app ra (L.rel_app (evXL_rel he _ hs) rc)) (he.gok fun _ => rfl) m hd hf hn (fun fn h1 h2 h3 => ?_) hK
    have h3' : fn.body.isNone = false := by cases hb : fn.body <;> simp_all
    simp at h2
    simp [execOp, ho, resolve, hv, Deferred.ofValue, invoke, callFunc, h1, h2]
    rw [if_neg (by intro hb; rw [hb] at h3; simp at h3)]
    refine congrArg (fun x => Result.ok (Next.enter f x) w) (Array.ext' ?_)
    simp
  case yl p =>
    rw [V.rel] at rx
    obtain ⟨r, hg, hv⟩ := rx
    obtain ⟨fn, tmps, ca, cb, hy, hround⟩ := hF.2 _ _ _ _ _ _ _ _ hr _ g w r hg (evXL_rel he _ hs) (he.gok fun _ => rfl) m hd hf hn
    refine ⟨fun _ _ => trivial, ?_⟩
    have hs' : o.semAt (fw ro).round a.eval = execOp a.eval o := Oper.semAt_eq ro _ o fun c hc => by rw [ho] at hc; cases hc
    have hx1 : (execOp a.eval o).run P w = .ok (.round r fn tmps ca cb) w := by
      simp [execOp, ho, resolve, hv, Deferred.ofValue, invoke]
      have e1 : (⟨List.map a.eval as.toList⟩ : Array Value) = Array.map a.eval as := Array.ext' (by simp)
      rw [e1] at hy
      exact hy
    rw [hs', hx1]
    refine ⟨fw_depth ro 0, ?_⟩
    exact RoundIn.mono hround fun e w' ⟨u, g', he', hr', hm', hfr'⟩ => by
      subst he'
      exact hK u g' w' hr' hm' hfr'
  all_goals cases hr
end
end Go.Proofs.Ytjhgingmbklhaaa.Ev
